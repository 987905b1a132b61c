/-
  Single precision up to which NaN it is: the operations as functions of canonical words, and the walk's law for them.
-/
import Derived.Test.YtjkgiknklkfipaaNum
import Derived.OwnWalk
import Derived.Deep.Draws
namespace Go.Proofs.Ytjkgiknklkfipaa
open Go
set_option linter.unusedVariables false
def nan32 (a : Nat) : Bool := (FloatKind.f32.decode a).isNaN
def qn : Nat := 2143289344
/-- The canonical word: one word for every NaN. -/
def cn (b : Nat) : Nat := if nan32 b then qn else b
theorem nan_qn : nan32 qn = true := by decide +kernel
theorem cn_of_nan {b : Nat} (h : nan32 b = true) : cn b = qn := by unfold cn; rw [h]; rfl
theorem cn_of_not {b : Nat} (h : nan32 b = false) : cn b = b := by unfold cn; rw [h]; rfl
theorem nan_cn (b : Nat) : nan32 (cn b) = nan32 b := by
  cases h : nan32 b
  · rw [cn_of_not h, h]
  · rw [cn_of_nan h, nan_qn]
theorem cn_cn (b : Nat) : cn (cn b) = cn b := by
  cases h : nan32 b
  · rw [cn_of_not h, cn_of_not h]
  · rw [cn_of_nan h]
    exact cn_of_nan nan_qn
/-- '+', '-', '*', '/' on canonical words. -/
def f2 (op : BinOp) (x y : Nat) : Nat := (floatBits op .f32 x y).getD qn
theorem floatBits_nan_left (op : BinOp) {x : Nat} (y : Nat) (h : nan32 x = true) : floatBits op .f32 x y = none := by
  unfold nan32 FloatKind.decode FloatKind.format at h
  have hx : ∃ s f, Ieee.single.read x = .nan s f := by
    cases hd : Ieee.single.read x with
    | nan s f => exact ⟨s, f, rfl⟩
    | infinity s => simp only [hd] at h; simp [Ieee.Datum.isNaN] at h
    | number s m e => simp only [hd] at h; simp [Ieee.Datum.isNaN] at h
  obtain ⟨s, f, hx⟩ := hx
  unfold floatBits
  cases op <;> simp only [FloatKind.format, Ieee.Format.add, Ieee.Format.sub, Ieee.Format.mul, Ieee.Format.div, hx] <;> rfl
theorem floatBits_nan_right (op : BinOp) (x : Nat) {y : Nat} (h : nan32 y = true) : floatBits op .f32 x y = none := by
  unfold nan32 FloatKind.decode FloatKind.format at h
  have hy : ∃ s f, Ieee.single.read y = .nan s f := by
    cases hd : Ieee.single.read y with
    | nan s f => exact ⟨s, f, rfl⟩
    | infinity s => simp only [hd] at h; simp [Ieee.Datum.isNaN] at h
    | number s m e => simp only [hd] at h; simp [Ieee.Datum.isNaN] at h
  obtain ⟨s, f, hy⟩ := hy
  unfold floatBits
  cases op <;> simp only [FloatKind.format, Ieee.Format.add, Ieee.Format.sub, Ieee.Format.mul, Ieee.Format.div, hy, Ieee.Datum.opposite] <;> first | rfl | (cases Ieee.single.read x <;> rfl)
theorem f2_cn (op : BinOp) (x y : Nat) : f2 op (cn x) (cn y) = f2 op x y := by
  cases hx : nan32 x
  · rw [cn_of_not hx]
    cases hy : nan32 y
    · rw [cn_of_not hy]
    · rw [cn_of_nan hy]
      unfold f2
      rw [floatBits_nan_right op x nan_qn, floatBits_nan_right op x hy]
  · rw [cn_of_nan hx]
    unfold f2
    rw [floatBits_nan_left op _ nan_qn, floatBits_nan_left op _ hx]
theorem notNan_write32 {d : Ieee.Datum} (h : d.isNaN = false) : nan32 (Ieee.single.write d) = false := by
  cases d with
  | nan s f => simp [Ieee.Datum.isNaN] at h
  | infinity s => exact notNan_word Ieee.single s (Nat.le_refl _)
  | number s m e => exact notNan_nearest Ieee.single s m e
theorem sum_notNan {x y d : Ieee.Datum} (h : x.sum y = some d) : d.isNaN = false := by
  cases x <;> cases y <;> simp only [Ieee.Datum.sum] at h <;> first | (cases h; done) | (cases h; rfl) | (split at h <;> cases h; rfl)
theorem product_notNan {x y d : Ieee.Datum} (h : x.product y = some d) : d.isNaN = false := by
  cases x <;> cases y <;> simp only [Ieee.Datum.product] at h <;> first | (cases h; done) | (cases h; rfl) | (split at h <;> cases h; rfl)
theorem quotient_notNan {n : Nat} {x y d : Ieee.Datum} (h : x.quotient n y = some d) : d.isNaN = false := by
  cases x <;> cases y <;> simp only [Ieee.Datum.quotient] at h <;> first | (cases h; done) | (cases h; rfl) | (split at h <;> first | (cases h; rfl) | (split at h <;> cases h; rfl))
theorem floatBits_notNan {op : BinOp} {x y r : Nat} (h : floatBits op .f32 x y = some r) : nan32 r = false := by
  unfold floatBits at h
  cases op <;> simp only [FloatKind.format, Ieee.Format.add, Ieee.Format.sub, Ieee.Format.mul, Ieee.Format.div, Option.map_eq_some_iff] at h <;> first | (cases h; done) | skip
  · obtain ⟨d, hd, rfl⟩ := h
    exact notNan_write32 (sum_notNan hd)
  · obtain ⟨d, hd, rfl⟩ := h
    exact notNan_write32 (sum_notNan hd)
  · obtain ⟨d, hd, rfl⟩ := h
    exact notNan_write32 (product_notNan hd)
  · obtain ⟨d, hd, rfl⟩ := h
    exact notNan_write32 (quotient_notNan hd)
theorem cn_f2 (op : BinOp) (x y : Nat) : cn (f2 op x y) = f2 op x y := by
  unfold f2
  cases h : floatBits op .f32 x y with
  | none => exact cn_of_nan nan_qn
  | some r => exact cn_of_not (floatBits_notNan h)
theorem isNaN32_of {n : Nat} (h : 0x7f800000 < n % 2 ^ 31) : nan32 n = true := read_nan Ieee.single (by decide) h
theorem cut_nan32 (x y t : Nat) : nan32 (Question.cut (.nanBits .f32 x y) t) = true := by
  refine isNaN32_of ?_
  have h1 : t / 2 % (2 ^ 23 - 1) < 2 ^ 23 - 1 := Nat.mod_lt _ (by decide)
  have h2 : t % 2 < 2 := Nat.mod_lt _ (by decide)
  show 0x7f800000 < ((t % 2) * 2 ^ 31 + 0x7f800000 + 1 + (t / 2) % (2 ^ 23 - 1)) % 2 ^ 31
  revert h1 h2
  generalize t / 2 % (2 ^ 23 - 1) = q
  generalize t % 2 = s
  intro h1 h2
  rcases (by omega : s = 0 ∨ s = 1) with rfl | rfl <;> omega
def arith (op : BinOp) : Bool := match op with | .add | .sub | .mul | .quo => true | _ => false
theorem run_f32 {P : Program} (w : World) (op : BinOp) (t : TypeId) (x y : Nat) (ha : arith op = true) :
    ∃ r n, (binOp op t (.float .f32 x) (.float .f32 y)).run P w = .ok (.float .f32 r) (w.drewN n) ∧ cn r = f2 op (cn x) (cn y) := by
  cases h : floatBits op .f32 x y with
  | some r =>
    refine ⟨r, 0, run_float_arith w op t .f32 x y r h, ?_⟩
    rw [f2_cn, cn_of_not (floatBits_notNan h)]
    unfold f2
    rw [h]
    rfl
  | none =>
    refine ⟨Question.cut (.nanBits .f32 x y) (w.tape w.drawn (.nanBits .f32 x y)), 1, ?_, ?_⟩
    · unfold floatBits at h
      cases op <;> simp only [arith] at ha <;> first | (cases ha; done) | skip
      all_goals
        simp only at h
        simp [binOp, Op.floatArith, h, choose]
        rfl
    · rw [f2_cn, cn_of_nan (cut_nan32 x y _)]
      unfold f2
      rw [h]
      rfl
theorem wpList_f32 {P : Program} {ops : Array Oper} {rest : List Oper} {o : Oper} {a : Act} {w : World} {Q : Exit → Act → World → Prop} (hgd : o.guard = none) (op : BinOp) (t t' : TypeId) (x y : Operand) (p q : Nat)
    (ho : o.op = .binOp op t x y t') (hx : a.eval x = .float .f32 p) (hy : a.eval y = .float .f32 q) (ha : arith op = true)
    (h : ∀ r n, cn r = f2 op (cn p) (cn q) → wpList P ops Q rest (a.put o.dst (.float .f32 r)) (w.drewN n)) : wpList P ops Q (o :: rest) a w := by
  obtain ⟨r, n, hr, hc⟩ := run_f32 (P := P) w op t p q ha
  refine wpList_plain hgd fun K hK => ?_
  have h2 := hK _ _ (h r n hc)
  unfold Oper.wp execOp
  simp only [ho, hx, hy]
  cases op <;> simp only [arith] at ha <;> first | (cases ha; done) | skip
  all_goals
    simp only [eqGuard, Bool.not_false, if_true, Sem.run_bind, Sem.run_pure, Result.andThen_ok, hr]
    exact h2
theorem nan32_of_mod {a b : Nat} (h : a % 2 ^ 31 = b % 2 ^ 31) : nan32 a = nan32 b := by
  have e : ∀ n, nan32 n = decide (0x7f800000 < n % 2 ^ 31) := fun n => by
    by_cases h : 0x7f800000 < n % 2 ^ 31
    · rw [isNaN32_of h]
      simp [h]
    · rw [decide_eq_false h]
      have hs : Ieee.Format.signWeight Ieee.single = 2147483648 := by decide
      have hb : Ieee.Format.binade Ieee.single = 8388608 := by decide
      have hi : Ieee.Format.infRung Ieee.single = 2139095040 := by decide
      simp only [nan32, FloatKind.decode, FloatKind.format, Ieee.Format.read, hs, hb, hi]
      split
      · rfl
      · split
        · rfl
        · rw [if_pos (by omega)]; rfl
  rw [e, e, h]
theorem nan_neg (b : Nat) : nan32 (Op.negFloat .f32 b) = nan32 b := by
  refine nan32_of_mod ?_
  show (b ^^^ 2 ^ 31) % 2 ^ 31 = b % 2 ^ 31
  rw [Nat.xor_mod_two_pow, Nat.mod_self, Nat.xor_zero]
/-- The sign changed, on canonical words. -/
def fneg (x : Nat) : Nat := cn (Op.negFloat .f32 x)
theorem cn_neg (b : Nat) : cn (Op.negFloat .f32 b) = fneg (cn b) := by
  unfold fneg
  cases h : nan32 b
  · rw [cn_of_not h]
  · rw [cn_of_nan h, cn_of_nan (by rw [nan_neg]; exact h), cn_of_nan (by rw [nan_neg]; exact nan_qn)]
theorem cn_fneg (x : Nat) : cn (fneg x) = fneg x := cn_cn _
/-- Comparisons see no more than the canonical word. -/
theorem order_cn (a b : Nat) : FloatKind.f32.format.order (cn a) (cn b) = FloatKind.f32.format.order a b := by
  cases ha : nan32 a
  · rw [cn_of_not ha]
    cases hb : nan32 b
    · rw [cn_of_not hb]
    · rw [cn_of_nan hb, order_nan_right a nan_qn, order_nan_right a hb]
  · rw [cn_of_nan ha, order_nan_left _ nan_qn, order_nan_left _ ha]
/-- The word of a whole number. -/
def fint (n : Int) : Nat := floatOfInt .f32 n
theorem cn_fint (n : Int) : cn (floatOfInt .f32 n) = fint n := cn_of_not (notNan_nearest Ieee.single _ _ _)
def nzNum (d : Ieee.Datum) : Bool := match d with | .number _ m _ => m != 0 | _ => false
theorem fint_nz_all : ((List.range 201).all fun b => decide (b < 6) || nzNum (FloatKind.f32.decode (floatOfInt .f32 (b : Int)))) = true := by decide +kernel
/-- Numbers of teeth are numbers, and not nought. -/
theorem fint_nz {b : Int} (h1 : 6 ≤ b) (h2 : b ≤ 200) : nzNum (FloatKind.f32.decode (floatOfInt .f32 b)) = true := by
  obtain ⟨k, rfl⟩ := Int.eq_ofNat_of_zero_le (by omega : 0 ≤ b)
  have h := List.all_eq_true.1 fint_nz_all k (List.mem_range.2 (by omega))
  rcases Bool.or_eq_true _ _ ▸ h with h | h
  · have := of_decide_eq_true h
    omega
  · exact h
/-- A quotient of such numbers, as the program reckons it: no NaN, nothing drawn. -/
def quoT (a b : Int) : Nat := (floatBits .quo .f32 (floatOfInt .f32 a) (floatOfInt .f32 b)).getD 0
theorem quoT_some {a b : Int} (a1 : 6 ≤ a) (a2 : a ≤ 200) (b1 : 6 ≤ b) (b2 : b ≤ 200) : floatBits .quo .f32 (floatOfInt .f32 a) (floatOfInt .f32 b) = some (quoT a b) := by
  have ha := fint_nz a1 a2
  have hb := fint_nz b1 b2
  have e : ∃ r, floatBits .quo .f32 (floatOfInt .f32 a) (floatOfInt .f32 b) = some r := by
    unfold nzNum FloatKind.decode FloatKind.format at ha hb
    simp only [floatBits, FloatKind.format, Ieee.Format.div]
    cases hx : Ieee.single.read (floatOfInt .f32 a) with
    | nan s f => rw [hx] at ha; cases ha
    | infinity s => rw [hx] at ha; cases ha
    | number s m i =>
      cases hy : Ieee.single.read (floatOfInt .f32 b) with
      | nan s f => rw [hy] at hb; cases hb
      | infinity s => rw [hy] at hb; cases hb
      | number t n j =>
        rw [hy] at hb
        have hn : n ≠ 0 := by simpa using hb
        simp only [Ieee.Datum.quotient, hn, if_false]
        exact ⟨_, rfl⟩
  obtain ⟨r, hr⟩ := e
  unfold quoT
  rw [hr]
  rfl
theorem cn_quoT {a b : Int} (a1 : 6 ≤ a) (a2 : a ≤ 200) (b1 : 6 ≤ b) (b2 : b ≤ 200) : cn (quoT a b) = f2 .quo (fint a) (fint b) := by
  have h := quoT_some a1 a2 b1 b2
  rw [cn_of_not (floatBits_notNan h)]
  unfold f2 fint
  rw [h]
  rfl
end Go.Proofs.Ytjkgiknklkfipaa
