/-
  Of a list of pairs those that are near.
-/
import Derived.Test.YtaodpopghacmaaaIpm
import Derived.Test.YtaodpopghacmaaaBl
namespace Go.Proofs.Ytaodpopghacmaaa
open Go.RowKit Go.ChangeShapes Go.WideShapes Go.Deep
set_option linter.unusedVariables false
set_option linter.unusedSimpArgs false
def ipOf (p : Nat × Nat) : Ip := ⟨(p.1 : Int), (p.2 : Int)⟩
/-- The pairs that are near. -/
def nearL (off : Nat × Nat → Nat) (x : Nat) (l : List (Nat × Nat)) : List Ip := (l.filter fun p => oLe (off p) x).map ipOf
theorem nearL_yes {off : Nat × Nat → Nat} {x : Nat} {l : List (Nat × Nat)} {p : Nat × Nat} (h : oLe (off p) x = true) : nearL off x (l ++ [p]) = nearL off x l ++ [ipOf p] := by
  unfold nearL
  rw [List.filter_append, List.map_append]
  simp [h]
theorem nearL_no {off : Nat × Nat → Nat} {x : Nat} {l : List (Nat × Nat)} {p : Nat × Nat} (h : oLe (off p) x = false) : nearL off x (l ++ [p]) = nearL off x l := by
  unfold nearL
  rw [List.filter_append, List.map_append]
  simp [h]
theorem nearL_len (off : Nat × Nat → Nat) (x : Nat) (l : List (Nat × Nat)) : (nearL off x l).length ≤ l.length := by
  unfold nearL
  rw [List.length_map]
  exact List.length_filter_le _ _
end Go.Proofs.Ytaodpopghacmaaa
