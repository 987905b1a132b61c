/-
  By how much a factor is off a target: both sides and the law.
-/
import Derived.Test.YtjkgiknklkfipaaOps
import Derived.Test.YtjkgiknklkfipaaSz
namespace Go.Proofs.Ytjkgiknklkfipaa
open Go.RowKit Go.ChangeShapes Go.WideShapes Go.Deep
attribute [local go_sem ↓] Go.wp_at_zero Go.wp_at_succ
set_option linter.unusedVariables false
set_option linter.unusedSimpArgs false
set_option maxRecDepth 100000
theorem write_lt (d : Ieee.Datum) (h : d.isNaN = false) : Ieee.single.write d < 4294967296 := by
  have hs : Ieee.Format.signWeight Ieee.single = 2147483648 := by decide
  have hi : Ieee.Format.infRung Ieee.single = 2139095040 := by decide
  have hw : ∀ s r, r ≤ 2139095040 → Ieee.single.word s r < 4294967296 := fun s r hr => by
    unfold Ieee.Format.word
    rw [hs]
    cases s
    · simp; omega
    · simp; omega
  cases d with
  | nan s f => simp [Ieee.Datum.isNaN] at h
  | infinity s => exact hw s _ (by rw [hi]; omega)
  | number s m e =>
    show Ieee.single.nearest s m e < 4294967296
    unfold Ieee.Format.nearest
    dsimp only
    split
    · exact hw s 0 (by omega)
    · exact hw s _ (by rw [hi]; exact Nat.min_le_right _ _)
theorem floatBits_lt {op : BinOp} {x y r : Nat} (h : floatBits op .f32 x y = some r) : r < 4294967296 := by
  unfold floatBits at h
  cases op <;> simp only [FloatKind.format, Ieee.Format.add, Ieee.Format.sub, Ieee.Format.mul, Ieee.Format.div, Option.map_eq_some_iff] at h <;> first | (cases h; done) | skip
  · obtain ⟨d, hd, rfl⟩ := h
    exact write_lt _ (sum_notNan hd)
  · obtain ⟨d, hd, rfl⟩ := h
    exact write_lt _ (sum_notNan hd)
  · obtain ⟨d, hd, rfl⟩ := h
    exact write_lt _ (product_notNan hd)
  · obtain ⟨d, hd, rfl⟩ := h
    exact write_lt _ (quotient_notNan hd)
theorem cut_lt (x y t : Nat) : Question.cut (.nanBits .f32 x y) t < 4294967296 := by
  have h1 : t / 2 % (2 ^ 23 - 1) < 2 ^ 23 - 1 := Nat.mod_lt _ (by decide)
  have h2 : t % 2 < 2 := Nat.mod_lt _ (by decide)
  show ((t % 2) * 2 ^ 31 + 0x7f800000 + 1 + (t / 2) % (2 ^ 23 - 1)) < 4294967296
  revert h1 h2
  generalize t / 2 % (2 ^ 23 - 1) = q
  generalize t % 2 = s
  intro h1 h2
  rcases (by omega : s = 0 ∨ s = 1) with rfl | rfl <;> omega
theorem run_f32b {P : Program} (w : World) (op : BinOp) (t : TypeId) (x y : Nat) (ha : arith op = true) :
    ∃ r n, (binOp op t (.float .f32 x) (.float .f32 y)).run P w = .ok (.float .f32 r) (w.drewN n) ∧ cn r = f2 op (cn x) (cn y) ∧ r < 4294967296 := by
  cases h : floatBits op .f32 x y with
  | some r =>
    refine ⟨r, 0, run_float_arith w op t .f32 x y r h, ?_, floatBits_lt h⟩
    rw [f2_cn, cn_of_not (floatBits_notNan h)]
    unfold f2
    rw [h]
    rfl
  | none =>
    refine ⟨Question.cut (.nanBits .f32 x y) (w.tape w.drawn (.nanBits .f32 x y)), 1, ?_, ?_, cut_lt x y _⟩
    · unfold floatBits at h
      cases op <;> simp only [arith] at ha <;> first | (cases ha; done) | skip
      all_goals
        simp only at h
        simp [binOp, Op.floatArith, h, choose]
        rfl
    · rw [f2_cn, cn_of_nan (cut_nan32 x y _)]
      unfold f2
      rw [h]
      rfl
/-- The four operations as functions of what they are given and of the world, with a bound on the words. -/
theorem ops_funb (P : Program) (t : TypeId) : ∃ (R N : BinOp → Nat → Nat → World → Nat),
    (∀ op, arith op = true → ∀ x y w, (binOp op t (.float .f32 x) (.float .f32 y)).run P w = .ok (.float .f32 (R op x y w)) (w.drewN (N op x y w))) ∧
    (∀ op, arith op = true → ∀ x y w, cn (R op x y w) = f2 op (cn x) (cn y)) ∧ ∀ op, arith op = true → ∀ x y w, R op x y w < 4294967296 := by
  have H : ∀ q : BinOp × Nat × Nat × World, ∃ rn : Nat × Nat, arith q.1 = true → (binOp q.1 t (.float .f32 q.2.1) (.float .f32 q.2.2.1)).run P q.2.2.2 = .ok (.float .f32 rn.1) (q.2.2.2.drewN rn.2) ∧ cn rn.1 = f2 q.1 (cn q.2.1) (cn q.2.2.1) ∧ rn.1 < 4294967296 := fun q => by
    by_cases ha : arith q.1 = true
    · obtain ⟨r, n, h1, h2, h3⟩ := run_f32b (P := P) q.2.2.2 q.1 t q.2.1 q.2.2.1 ha
      exact ⟨(r, n), fun _ => ⟨h1, h2, h3⟩⟩
    · exact ⟨(0, 0), fun h => absurd h ha⟩
  obtain ⟨F, hF⟩ := Classical.skolem.1 H
  exact ⟨fun op x y w => (F (op, x, y, w)).1, fun op x y w => (F (op, x, y, w)).2, fun op ha x y w => (hF (op, x, y, w) ha).1, fun op ha x y w => (hF (op, x, y, w) ha).2.1, fun op ha x y w => (hF (op, x, y, w) ha).2.2⟩
def sizeC (m : Nat) : Nat := if oLt m 0 then fneg (cn m) else cn m
theorem sizeC_cn (m : Nat) : sizeC (cn m) = sizeC m := by
  unfold sizeC
  rw [oLt_cn (cn_cn m) rfl, cn_cn]
theorem sub_fneg {m : Nat} (hm : m < 4294967296) (h : FloatKind.f32.format.order m 0 = some .lt) : f2 .sub (cn 0) (cn m) = fneg (cn m) := by
  have h1 := zero_sub hm h
  rw [f2_cn, ← cn_neg, cn_of_not (floatBits_notNan h1)]
  unfold f2
  rw [h1]
  rfl
def tgB (x : Nat) : Bool := oGe x 981467136 && oLe x 1149239296
def ptB (x : Nat) : Bool := oGe x 0 && oLe x 1065353216
def offC (f t : Nat) : Nat := f2 .quo (sizeC (f2 .sub (cn f) (cn t))) (cn t)
def codeO (f t : Nat) : Int := if tgB t && plB f then 0 else 2
theorem isTarget_any (m : Nat) (w : World) : Calls Try.prog 45 #[.float .f32 m] w fun e w' => e = .returned (.bool (tgB m)) ∧ w = w' := by
  unfold tgB oGe oLe
  go_enter Try.func45, Try.ntmps45
  go_wp2
  · go_ret
    exact ⟨rfl, rfl⟩
  · rename_i h
    go_ret
    refine ⟨?_, rfl⟩
    simp at h
    simp [h]
theorem l05Target_any (m : Nat) (w : World) : Calls Try.prog 44 #[.float .f32 m] w fun e w' => e = .returned (.bool (tgB m)) ∧ w = w' := by
  unfold tgB oGe oLe
  go_enter Try.func44, Try.ntmps44
  go_wp2
  · go_ret
    exact ⟨rfl, rfl⟩
  · rename_i h
    go_ret
    refine ⟨?_, rfl⟩
    simp at h
    simp [h]
theorem isPart_any (m : Nat) (w : World) : Calls Try.prog 60 #[.float .f32 m] w fun e w' => e = .returned (.bool (ptB m)) ∧ w = w' := by
  unfold ptB oGe oLe
  go_enter Try.func60, Try.ntmps60
  go_wp2
  · go_ret
    exact ⟨rfl, rfl⟩
  · rename_i h
    go_ret
    refine ⟨?_, rfl⟩
    simp at h
    simp [h]
theorem l01Part_any (m : Nat) (w : World) : Calls Try.prog 55 #[.float .f32 m] w fun e w' => e = .returned (.bool (ptB m)) ∧ w = w' := by
  unfold ptB oGe oLe
  go_enter Try.func55, Try.ntmps55
  go_wp2
  · go_ret
    exact ⟨rfl, rfl⟩
  · rename_i h
    go_ret
    refine ⟨?_, rfl⟩
    simp at h
    simp [h]
end Go.Proofs.Ytjkgiknklkfipaa
