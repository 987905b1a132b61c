/-
  The laws' own walks over trains, first part.
-/
import Derived.Test.YtkkcihgnpephiaaDoorUValid
import Derived.Test.YtkkcihgnpephiaaDoorUPairsIn
namespace Go.Proofs.YtkkcihgnpephiaaDoor
open Go.RowKit Go.ChangeShapes Go.WideShapes Go.Deep
set_option linter.unusedVariables false
theorem bthen {w w1 w2 : World} (h : Below w.heap.size w w1) (k : Below w1.heap.size w1 w2) : Below w.heap.size w w2 := h.trans (k.mono h.size)
def codeTr (ps : List Px) : Int := if okTr ps = true then 0 else 1
theorem teeth_bounds {ps : List Px} (h : okTr ps = true) {p : Px} (hp : p ∈ ps) : (6 ≤ p.a ∧ p.a ≤ 200) ∧ (6 ≤ p.b ∧ p.b ≤ 200) ∧ partB p.l = true := by
  unfold okTr at h
  simp only [Bool.and_eq_true, List.all_eq_true] at h
  have h2 := h.2 p hp
  unfold okP teethP partP teethB at h2
  simp only [Bool.and_eq_true, decide_eq_true_eq] at h2
  exact ⟨h2.1.1, h2.1.2, h2.2⟩
theorem size_bounds {ps : List Px} (h : okTr ps = true) : 1 ≤ ps.length ∧ ps.length ≤ 8 := by
  unfold okTr sizeB at h
  simp only [Bool.and_eq_true, decide_eq_true_eq] at h
  exact h.1
theorem Made.below {w w' : World} {n : Nat} {ps : List Px} (h : Made w w' n ps) : Below w.heap.size w w' := h.2.2.2
theorem Made.tr {w w' : World} {n : Nat} {ps : List Px} (h : Made w w' n ps) : Px.L w' w'.heap.size (some ⟨w.heap.size, 0, none⟩) ps := fun _ =>
  ⟨w.heap.size, 0, rfl, h.2.2.1, fun i p hp => by rw [Nat.zero_add]; exact h.2.1 i p hp⟩
end Go.Proofs.YtkkcihgnpephiaaDoor
