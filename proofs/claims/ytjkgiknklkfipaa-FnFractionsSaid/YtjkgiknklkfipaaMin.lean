/-
  The lesser and the greater of two numbers in single precision; numbers between bounds, by their ranks.
-/
import Derived.Test.YtjkgiknklkfipaaMag
import Derived.Test.YtjkgiknklkfipaaBl
import Derived.Laws.FloatBits
namespace Go.Proofs.Ytjkgiknklkfipaa
open Go
set_option linter.unusedVariables false
set_option linter.unusedSimpArgs false
theorem not_nan_of_order {x y : Nat} {o : Ordering} (h : FloatKind.f32.format.order x y = some o) : nan32 x = false ∧ nan32 y = false := by
  constructor
  · cases hx : nan32 x
    · rfl
    · rw [order_nan_left y hx] at h; cases h
  · cases hy : nan32 y
    · rfl
    · rw [order_nan_right x hy] at h; cases h
theorem oGe_rk {x y : Nat} (h : oGe x y = true) : nan32 x = false ∧ nan32 y = false ∧ rk y ≤ rk x := by
  unfold oGe at h
  cases ho : FloatKind.f32.format.order x y with
  | none => rw [ho] at h; simp at h
  | some o =>
    obtain ⟨hx, hy⟩ := not_nan_of_order ho
    refine ⟨hx, hy, ?_⟩
    rw [ord_rk hx hy] at h
    rcases (by omega : rk x < rk y ∨ rk y ≤ rk x) with hl | hl
    · rw [show compare (rk x) (rk y) = .lt from Int.compare_eq_lt.2 hl] at h
      simp at h
    · exact hl
theorem oLe_rk {x y : Nat} (h : oLe x y = true) : nan32 x = false ∧ nan32 y = false ∧ rk x ≤ rk y := by
  unfold oLe at h
  cases ho : FloatKind.f32.format.order x y with
  | none => rw [ho] at h; simp at h
  | some o =>
    obtain ⟨hx, hy⟩ := not_nan_of_order ho
    refine ⟨hx, hy, ?_⟩
    rw [ord_rk hx hy] at h
    rcases (by omega : rk y < rk x ∨ rk x ≤ rk y) with hl | hl
    · rw [show compare (rk x) (rk y) = .gt from Int.compare_eq_gt.2 hl] at h
      simp at h
    · exact hl
theorem oEq_rk {x y : Nat} (hx : nan32 x = false) (hy : nan32 y = false) : oEq x y = decide (rk x = rk y) := by
  unfold oEq
  rw [ord_rk hx hy]
  by_cases h : rk x = rk y
  · rw [show compare (rk x) (rk y) = .eq from Int.compare_eq_eq.2 h, decide_eq_true h]; rfl
  · rw [decide_eq_false h]
    rcases (by omega : rk x < rk y ∨ rk y ≤ rk x) with hl | hl
    · rw [show compare (rk x) (rk y) = .lt from Int.compare_eq_lt.2 hl]; rfl
    · rw [show compare (rk x) (rk y) = .gt from Int.compare_eq_gt.2 (by omega)]; rfl
theorem oGt_rk {x y : Nat} (hx : nan32 x = false) (hy : nan32 y = false) : oGt x y = decide (rk y < rk x) := by
  unfold oGt
  rw [ord_rk hx hy]
  by_cases h : rk y < rk x
  · rw [show compare (rk x) (rk y) = .gt from Int.compare_eq_gt.2 h, decide_eq_true h]; rfl
  · rw [decide_eq_false h]
    rcases (by omega : rk x < rk y ∨ rk y ≤ rk x) with hl | hl
    · rw [show compare (rk x) (rk y) = .lt from Int.compare_eq_lt.2 hl]; rfl
    · rw [show compare (rk x) (rk y) = .eq from Int.compare_eq_eq.2 (by omega)]; rfl
theorem rk_nonneg {x : Nat} (h : 0 ≤ rk x) : rk x = (rg x : Int) := by
  unfold rk at h ⊢
  unfold rg
  split at h
  · rename_i hs
    rw [if_pos hs]
    omega
  · rename_i hs
    rw [if_neg hs]
theorem rk_small {x : Nat} (h : x < 2147483648) : rk x = (x : Int) := by
  unfold rk
  rw [if_neg (by simp; omega), Nat.mod_eq_of_lt h]
theorem rg_small {x : Nat} (h : x < 2147483648) : rg x = x := Nat.mod_eq_of_lt h
/-- A number between two, neither of them negative: its rung. -/
theorem between {x lo hi : Nat} (h1 : oGe x lo = true) (h2 : oLe x hi = true) (hl : lo < 2147483648) (hh : hi < 2147483648) : nan32 x = false ∧ rg x ≤ hi ∧ lo ≤ rg x ∧ rk x = (rg x : Int) := by
  obtain ⟨n1, _, g1⟩ := oGe_rk h1
  obtain ⟨_, _, g2⟩ := oLe_rk h2
  rw [rk_small hl] at g1
  rw [rk_small hh] at g2
  have e := rk_nonneg (x := x) (by omega)
  rw [e] at g1 g2
  exact ⟨n1, by omega, by omega, e⟩
/-- A word of thirty-two bits with a positive rank is its rank. -/
theorem word_of_rk {x : Nat} (hx : x < 4294967296) (h : 0 < rk x) : (x : Int) = rk x := by
  unfold rk at h ⊢
  split at h
  · omega
  · rename_i hs
    rw [if_neg hs]
    simp at hs
    omega
theorem same_word {x y : Nat} (hx : x < 4294967296) (hy : y < 4294967296) (h : rk x = rk y) (h0 : 0 < rk x) : x = y := by
  have h1 := word_of_rk hx h0
  have h2 := word_of_rk hy (by omega)
  omega
theorem bits_lt {op : BinOp} {x y r : Nat} (h : floatBits op .f32 x y = some r) : r < 4294967296 := by
  unfold floatBits at h
  cases op <;> simp only [] at h <;> first | (cases h; done) | skip
  · exact Ieee.Format.add_lt _ h
  · exact Ieee.Format.sub_lt _ h
  · exact Ieee.Format.mul_lt _ h
  · exact Ieee.Format.div_lt _ h
/-- The lesser of two numbers. -/
theorem run_min_num {P : Program} {x y : Nat} (hx : nan32 x = false) (hy : nan32 y = false) (ts : Array TypeId) (t : TypeId) (w : World) :
    (Builtin.min_ ts t #[.float .f32 x, .float .f32 y]).run P w = .ok (.float .f32 (if rk x < rk y then x else if rk y < rk x then y else if (FloatKind.f32.decode x).neg then x else y)) w := by
  have ho := ord_rk hx hy
  unfold Builtin.min_
  simp only [List.foldlM, Sem.run_bind]
  unfold Builtin.min2
  rcases Int.lt_trichotomy (rk x) (rk y) with h | h | h
  · rw [show compare (rk x) (rk y) = .lt from Int.compare_eq_lt.2 h] at ho
    simp [ho, h]
  · rw [show compare (rk x) (rk y) = .eq from Int.compare_eq_eq.2 h] at ho
    simp [ho, h]
  · rw [show compare (rk x) (rk y) = .gt from Int.compare_eq_gt.2 h] at ho
    simp [ho, h]
    intro hh; omega
theorem run_max_num {P : Program} {x y : Nat} (hx : nan32 x = false) (hy : nan32 y = false) (ts : Array TypeId) (t : TypeId) (w : World) :
    (Builtin.max_ ts t #[.float .f32 x, .float .f32 y]).run P w = .ok (.float .f32 (if rk x < rk y then y else if rk y < rk x then x else if (FloatKind.f32.decode x).neg then y else x)) w := by
  have ho := ord_rk hx hy
  unfold Builtin.max_
  simp only [List.foldlM, Sem.run_bind]
  unfold Builtin.max2
  rcases Int.lt_trichotomy (rk x) (rk y) with h | h | h
  · rw [show compare (rk x) (rk y) = .lt from Int.compare_eq_lt.2 h] at ho
    simp [ho, h]
  · rw [show compare (rk x) (rk y) = .eq from Int.compare_eq_eq.2 h] at ho
    simp [ho, h]
  · rw [show compare (rk x) (rk y) = .gt from Int.compare_eq_gt.2 h] at ho
    simp [ho, h]
    intro hh; omega
end Go.Proofs.Ytjkgiknklkfipaa
