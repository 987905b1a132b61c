/-
  The ratio of a train.
-/
import Derived.Test.YtdfookgncokgjabLawsA
import Derived.Test.YtdfookgncokgjabGcd
namespace Go.Proofs.Ytdfookgncokgjab
open Go.RowKit Go.ChangeShapes Go.WideShapes Go.Deep
set_option linter.unusedVariables false
set_option linter.unusedSimpArgs false
def prodA (ps : List Pr) : Nat := (ps.map fun p => p.a.toNat).foldl (· * ·) 1
def prodB (ps : List Pr) : Nat := (ps.map fun p => p.b.toNat).foldl (· * ·) 1
theorem prodA_succ {ps : List Pr} {k : Nat} {p : Pr} (hp : ps[k]? = some p) : prodA (ps.take (k + 1)) = prodA (ps.take k) * p.a.toNat := by
  obtain ⟨hk, e⟩ := List.getElem?_eq_some_iff.1 hp
  unfold prodA
  rw [List.take_succ_eq_append_getElem hk, List.map_append, List.foldl_append, e]
  rfl
theorem prodB_succ {ps : List Pr} {k : Nat} {p : Pr} (hp : ps[k]? = some p) : prodB (ps.take (k + 1)) = prodB (ps.take k) * p.b.toNat := by
  obtain ⟨hk, e⟩ := List.getElem?_eq_some_iff.1 hp
  unfold prodB
  rw [List.take_succ_eq_append_getElem hk, List.map_append, List.foldl_append, e]
  rfl
theorem prod_bound {ps : List Pr} (h : okTr ps = true) : ∀ k, k ≤ ps.length → (1 ≤ prodA (ps.take k) ∧ prodA (ps.take k) ≤ 200 ^ k) ∧ (1 ≤ prodB (ps.take k) ∧ prodB (ps.take k) ≤ 200 ^ k) := by
  intro k
  induction k with
  | zero => intro _; simp [prodA, prodB]
  | succ k ih =>
    intro hk
    obtain ⟨p, hp⟩ : ∃ p, ps[k]? = some p := ⟨_, List.getElem?_eq_getElem (by omega)⟩
    obtain ⟨⟨a1, a2⟩, ⟨b1, b2⟩, _⟩ := teeth_bounds h (List.mem_of_getElem? hp)
    obtain ⟨⟨i1, i2⟩, ⟨j1, j2⟩⟩ := ih (by omega)
    rw [prodA_succ hp, prodB_succ hp, Nat.pow_succ]
    refine ⟨⟨?_, Nat.mul_le_mul i2 (by omega)⟩, ⟨?_, Nat.mul_le_mul j2 (by omega)⟩⟩
    · exact Nat.mul_pos i1 (by omega)
    · exact Nat.mul_pos j1 (by omega)
theorem pow_bound {k : Nat} (h : k ≤ 8) : 200 ^ k ≤ 2560000000000000000 := by
  have := Nat.pow_le_pow_right (show 0 < 200 by decide) h
  exact Nat.le_trans this (by decide)
def numR (ps : List Pr) : Nat := if okTr ps = true then prodA ps / Nat.gcd (prodA ps) (prodB ps) else 0
def denR (ps : List Pr) : Nat := if okTr ps = true then prodB ps / Nat.gcd (prodA ps) (prodB ps) else 0
end Go.Proofs.Ytdfookgncokgjab
