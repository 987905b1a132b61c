/-
  Structs that come in by value: mills, states, governors.
-/
import Derived.Test.YtdbcblfinflieaaGreatDoorOps
import Derived.ChangeArms
import Derived.Deep.Slices
import Derived.Lib.SmallJoins
namespace Go.Proofs.YtdbcblfinflieaaGreatDoor
open Go.RowKit Go.ChangeShapes Go.WideShapes Go.Deep Go.Joins
attribute [local go_sem ↓] Go.wp_at_zero Go.wp_at_succ
set_option linter.unusedVariables false
set_option linter.unusedSimpArgs false
set_option maxRecDepth 100000
structure Ml where
  b : Int
  h : Nat
  r : Nat
def AtMl (w : World) (q : Nat) (X : Ml) : Prop := w.heap[q]? = some (.cells #[.int .i16 X.b, .float .f32 X.h, .float .f32 X.r] 25 (0, 0))
theorem AtMl.lt {w : World} {q : Nat} {X : Ml} (h : AtMl w q X) : q < w.heap.size := by
  rcases Nat.lt_or_ge q w.heap.size with hlt | hge
  · exact hlt
  · unfold AtMl at h; rw [Array.getElem?_eq_none hge] at h; cases h
theorem AtMl.on {w W w' : World} {q : Nat} {X : Ml} (h : AtMl w q X) (hW : W.heap = w.heap) (b : Below W.heap.size W w') : AtMl w' q X := (b.block q (by rw [hW]; exact h.lt)).trans (by rw [hW]; exact h)
theorem AtMl.under {w w' : World} {q B : Nat} {X : Ml} (h : AtMl w q X) (hq : q < B) (b : Below B w w') : AtMl w' q X := (b.block q hq).trans h
theorem AtMl.same {w W : World} {q : Nat} {X : Ml} (h : AtMl w q X) (hW : W.heap = w.heap) : AtMl W q X := by unfold AtMl; rw [hW]; exact h
theorem AtMl.push {w : World} {q : Nat} {X : Ml} (h : AtMl w q X) (o : Obj) : AtMl (w.alloc o) q X := h.on (W := w) rfl (b_alloc (Below.refl _ _) o)
theorem AtMl.new (w : World) (X : Ml) : AtMl (w.alloc (.cells #[.int .i16 X.b, .float .f32 X.h, .float .f32 X.r] 25)) w.heap.size X := heap_alloc_new w _
theorem AtMl.cells {w : World} {q : Nat} {X : Ml} (h : AtMl w q X) : w.cell? ⟨q, 0, none⟩ = some (.int .i16 X.b) ∧ w.cell? ⟨q, 1, none⟩ = some (.float .f32 X.h) ∧ w.cell? ⟨q, 2, none⟩ = some (.float .f32 X.r) :=
  ⟨cell_of_row _ _ 0 _ _ _ h, cell_of_row _ _ 1 _ _ _ h, cell_of_row _ _ 2 _ _ _ h⟩
end Go.Proofs.YtdbcblfinflieaaGreatDoor
