/-
  The lesser and the greater of two numbers in single precision, up to which NaN: as functions of canonical words; comparisons as tests.
-/
import Derived.Test.YtjkgiknklkfipaaMin
import Derived.Test.YtjkgiknklkfipaaOps
namespace Go.Proofs.Ytjkgiknklkfipaa
open Go
set_option linter.unusedVariables false
set_option linter.unusedSimpArgs false
theorem nan_zero : nan32 0 = false := by decide +kernel
theorem cut_nanMM (m : Bool) (x y t : Nat) : nan32 (Question.cut (.nanMinMax .f32 m x y) t) = true := by
  refine isNaN32_of ?_
  have h1 : t / 2 % (2 ^ 23 - 1) < 2 ^ 23 - 1 := Nat.mod_lt _ (by decide)
  have h2 : t % 2 < 2 := Nat.mod_lt _ (by decide)
  show 0x7f800000 < ((t % 2) * 2 ^ 31 + 0x7f800000 + 1 + (t / 2) % (2 ^ 23 - 1)) % 2 ^ 31
  revert h1 h2
  generalize t / 2 % (2 ^ 23 - 1) = q
  generalize t % 2 = s
  intro h1 h2
  rcases (by omega : s = 0 ∨ s = 1) with rfl | rfl <;> omega
/-- The lesser of two canonical words. -/
def fmin (x y : Nat) : Nat := match FloatKind.f32.format.order x y with | none => qn | some .lt => x | some .gt => y | some .eq => if (FloatKind.f32.decode x).neg then x else y
def fmax (x y : Nat) : Nat := match FloatKind.f32.format.order x y with | none => qn | some .lt => y | some .gt => x | some .eq => if (FloatKind.f32.decode x).neg then y else x
theorem min_run (P : Program) (ts : Array TypeId) (t : TypeId) (x y : Nat) (w : World) : ∃ r n, (Builtin.min_ ts t #[.float .f32 x, .float .f32 y]).run P w = .ok (.float .f32 r) (w.drewN n) ∧ cn r = fmin (cn x) (cn y) := by
  unfold Builtin.min_
  simp only [List.foldlM, Sem.run_bind]
  unfold Builtin.min2 fmin
  rw [order_cn]
  cases ho : FloatKind.f32.format.order x y with
  | none => exact ⟨_, 1, by simp [ho, choose]; rfl, cn_of_nan (cut_nanMM false x y _)⟩
  | some o =>
    obtain ⟨hx, hy⟩ := not_nan_of_order ho
    cases o with
    | lt => exact ⟨x, 0, (by simp [ho] : _ = Result.ok (Value.float .f32 x) w), rfl⟩
    | gt => exact ⟨y, 0, (by simp [ho] : _ = Result.ok (Value.float .f32 y) w), rfl⟩
    | eq => exact ⟨(if (FloatKind.f32.decode x).neg then x else y), 0, (by simp [ho] : _ = Result.ok (Value.float .f32 (if (FloatKind.f32.decode x).neg then x else y)) w), by rw [cn_of_not hx]; dsimp only; split <;> first | rfl | exact cn_of_not hx⟩
theorem max_run (P : Program) (ts : Array TypeId) (t : TypeId) (x y : Nat) (w : World) : ∃ r n, (Builtin.max_ ts t #[.float .f32 x, .float .f32 y]).run P w = .ok (.float .f32 r) (w.drewN n) ∧ cn r = fmax (cn x) (cn y) := by
  unfold Builtin.max_
  simp only [List.foldlM, Sem.run_bind]
  unfold Builtin.max2 fmax
  rw [order_cn]
  cases ho : FloatKind.f32.format.order x y with
  | none => exact ⟨_, 1, by simp [ho, choose]; rfl, cn_of_nan (cut_nanMM true x y _)⟩
  | some o =>
    obtain ⟨hx, hy⟩ := not_nan_of_order ho
    cases o with
    | lt => exact ⟨y, 0, (by simp [ho] : _ = Result.ok (Value.float .f32 y) w), rfl⟩
    | gt => exact ⟨x, 0, (by simp [ho] : _ = Result.ok (Value.float .f32 x) w), rfl⟩
    | eq => exact ⟨(if (FloatKind.f32.decode x).neg then y else x), 0, (by simp [ho] : _ = Result.ok (Value.float .f32 (if (FloatKind.f32.decode x).neg then y else x)) w), by rw [cn_of_not hx]; dsimp only; split <;> first | rfl | exact cn_of_not hx⟩
/-- Both as functions of what they are given and of the world. -/
theorem min_fun (P : Program) : ∃ (M N : Nat → Nat → World → Nat), (∀ ts t x y w, (Builtin.min_ ts t #[.float .f32 x, .float .f32 y]).run P w = .ok (.float .f32 (M x y w)) (w.drewN (N x y w))) ∧ ∀ x y w, cn (M x y w) = fmin (cn x) (cn y) := by
  have H : ∀ q : Nat × Nat × World, ∃ rn : Nat × Nat, (∀ ts t, (Builtin.min_ ts t #[.float .f32 q.1, .float .f32 q.2.1]).run P q.2.2 = .ok (.float .f32 rn.1) (q.2.2.drewN rn.2)) ∧ cn rn.1 = fmin (cn q.1) (cn q.2.1) := fun q => by
    obtain ⟨r, n, h1, h2⟩ := min_run P #[] 0 q.1 q.2.1 q.2.2
    exact ⟨(r, n), fun _ _ => h1, h2⟩
  obtain ⟨F, hF⟩ := Classical.skolem.1 H
  exact ⟨fun x y w => (F (x, y, w)).1, fun x y w => (F (x, y, w)).2, fun ts t x y w => (hF (x, y, w)).1 ts t, fun x y w => (hF (x, y, w)).2⟩
theorem max_fun (P : Program) : ∃ (M N : Nat → Nat → World → Nat), (∀ ts t x y w, (Builtin.max_ ts t #[.float .f32 x, .float .f32 y]).run P w = .ok (.float .f32 (M x y w)) (w.drewN (N x y w))) ∧ ∀ x y w, cn (M x y w) = fmax (cn x) (cn y) := by
  have H : ∀ q : Nat × Nat × World, ∃ rn : Nat × Nat, (∀ ts t, (Builtin.max_ ts t #[.float .f32 q.1, .float .f32 q.2.1]).run P q.2.2 = .ok (.float .f32 rn.1) (q.2.2.drewN rn.2)) ∧ cn rn.1 = fmax (cn q.1) (cn q.2.1) := fun q => by
    obtain ⟨r, n, h1, h2⟩ := max_run P #[] 0 q.1 q.2.1 q.2.2
    exact ⟨(r, n), fun _ _ => h1, h2⟩
  obtain ⟨F, hF⟩ := Classical.skolem.1 H
  exact ⟨fun x y w => (F (x, y, w)).1, fun x y w => (F (x, y, w)).2, fun ts t x y w => (hF (x, y, w)).1 ts t, fun x y w => (hF (x, y, w)).2⟩
/-- A word of thirty-two bits. -/
def W32 (x : Nat) : Prop := x < 4294967296
theorem w32_qn : W32 qn := by unfold W32 qn; decide
theorem w32_cn {x : Nat} (h : x < 4294967296) : W32 (cn x) := by
  unfold cn
  split
  · exact w32_qn
  · exact h
theorem w32_f2 (op : BinOp) (x y : Nat) : W32 (f2 op x y) := by
  unfold f2
  cases h : floatBits op .f32 x y with
  | none => exact w32_qn
  | some r => exact bits_lt h
/-- The lesser of a number and a bound above nought, as a test tells it. -/
theorem fmin_test {c K : Nat} (hc : W32 c) (e : cn c = c) (hK : 0 < K) (hK2 : K < 2139095040) : fmin c K = if oGt c K then K else c := by
  unfold fmin oGt
  cases ho : FloatKind.f32.format.order c K with
  | none =>
    have hk : nan32 K = false := nan_rg (by unfold rg; omega)
    have hn : nan32 c = true := by
      cases hn : nan32 c
      · rw [ord_rk hn hk] at ho; cases ho
      · rfl
    rw [cn_of_nan hn] at e
    exact e
  | some o =>
    obtain ⟨hx, hy⟩ := not_nan_of_order ho
    cases o with
    | lt => rfl
    | gt => rfl
    | eq =>
      dsimp only
      rw [ord_rk hx hy] at ho
      have h1 : rk c = rk K := Int.compare_eq_eq.1 (Option.some.inj ho)
      have h2 := rk_small (x := K) (by omega)
      have h3 : c = K := same_word hc (by omega) h1 (by omega)
      subst h3
      simp
/-- The greater of a number and nought. -/
theorem fmax_test {c : Nat} (hc : W32 c) (hn : nan32 c = false) : fmax c 0 = if oGt c 0 then c else 0 := by
  unfold fmax oGt
  have ho := ord_rk hn nan_zero
  rcases Int.lt_trichotomy (rk c) (rk 0) with h | h | h
  · rw [show compare (rk c) (rk 0) = .lt from Int.compare_eq_lt.2 h] at ho
    rw [ho]; rfl
  · rw [show compare (rk c) (rk 0) = .eq from Int.compare_eq_eq.2 h] at ho
    rw [ho]
    have hz : c = 0 ∨ c = 2147483648 := by
      rw [show rk 0 = 0 from rfl] at h
      unfold rk at h
      unfold W32 at hc
      have h2 : c % 2147483648 = 0 := by
        split at h <;> omega
      omega
    rcases hz with rfl | rfl
    · decide +kernel
    · decide +kernel
  · rw [show compare (rk c) (rk 0) = .gt from Int.compare_eq_gt.2 h] at ho
    rw [ho]; rfl
theorem or_cn {x y c d : Nat} (hx : cn x = c) (hy : cn y = d) : FloatKind.f32.format.order x y = FloatKind.f32.format.order c d := by
  rw [← order_cn x y, hx, hy]
theorem tf_lt {x y : Nat} {t : Bool} (h : oLt x y = t) : (t = true → FloatKind.f32.format.order x y = some .lt) ∧ (t = false → (FloatKind.f32.format.order x y == some .lt) = false ∧ ¬ FloatKind.f32.format.order x y = some .lt) := by
  unfold oLt at h
  subst h
  exact ⟨fun h => by simpa using h, fun h => ⟨h, by simpa using h⟩⟩
theorem tf_gt {x y : Nat} {t : Bool} (h : oGt x y = t) : (t = true → FloatKind.f32.format.order x y = some .gt) ∧ (t = false → (FloatKind.f32.format.order x y == some .gt) = false ∧ ¬ FloatKind.f32.format.order x y = some .gt) := by
  unfold oGt at h
  subst h
  exact ⟨fun h => by simpa using h, fun h => ⟨h, by simpa using h⟩⟩
theorem tf_eq {x y : Nat} {t : Bool} (h : oEq x y = t) : (t = true → FloatKind.f32.format.order x y = some .eq) ∧ (t = false → (FloatKind.f32.format.order x y == some .eq) = false ∧ ¬ FloatKind.f32.format.order x y = some .eq) := by
  unfold oEq at h
  subst h
  exact ⟨fun h => by simpa using h, fun h => ⟨h, by simpa using h⟩⟩
end Go.Proofs.Ytjkgiknklkfipaa
