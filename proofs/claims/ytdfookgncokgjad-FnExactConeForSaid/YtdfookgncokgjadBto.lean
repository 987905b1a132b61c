/-
  A belt that the laws hand on.
-/
import Derived.Test.YtdfookgncokgjadBr
import Derived.Test.YtdfookgncokgjadBeltIn
namespace Go.Proofs.Ytdfookgncokgjad
open Go.RowKit Go.ChangeShapes Go.WideShapes Go.Deep
attribute [local go_sem ↓] Go.wp_at_zero Go.wp_at_succ
set_option linter.unusedVariables false
set_option linter.unusedSimpArgs false
def AtL (w : World) (q : Nat) (B : Bl) : Prop := w.heap[q]? = some (.cells #[.float .f32 B.a, .float .f32 B.b, .float .f32 B.ap, .float .f32 B.g, .bool B.x] 24 (0, 0))
theorem AtL.lt {w : World} {q : Nat} {B : Bl} (h : AtL w q B) : q < w.heap.size := by
  rcases Nat.lt_or_ge q w.heap.size with hlt | hge
  · exact hlt
  · unfold AtL at h; rw [Array.getElem?_eq_none hge] at h; cases h
theorem AtL.on {w W w' : World} {q : Nat} {B : Bl} (h : AtL w q B) (hW : W.heap = w.heap) (b : Below W.heap.size W w') : AtL w' q B := (b.block q (by rw [hW]; exact h.lt)).trans (by rw [hW]; exact h)
theorem AtL.new (w : World) (B : Bl) : AtL (w.alloc (.cells #[.float .f32 B.a, .float .f32 B.b, .float .f32 B.ap, .float .f32 B.g, .bool B.x] 24)) w.heap.size B := heap_alloc_new w _
theorem AtL.cells {w : World} {q : Nat} {B : Bl} (h : AtL w q B) : w.cell? ⟨q, 0, none⟩ = some (.float .f32 B.a) ∧ w.cell? ⟨q, 1, none⟩ = some (.float .f32 B.b) ∧ w.cell? ⟨q, 2, none⟩ = some (.float .f32 B.ap) ∧ w.cell? ⟨q, 3, none⟩ = some (.float .f32 B.g) ∧ w.cell? ⟨q, 4, none⟩ = some (.bool B.x) :=
  ⟨cell_of_row _ _ 0 _ _ _ h, cell_of_row _ _ 1 _ _ _ h, cell_of_row _ _ 2 _ _ _ h, cell_of_row _ _ 3 _ _ _ h, cell_of_row _ _ 4 _ _ _ h⟩
theorem toBelt_any (B : Bl) (w : World) : Calls Try.prog 14 #[.agg #[.float .f32 B.a, .float .f32 B.b, .float .f32 B.ap, .float .f32 B.g, .bool B.x]] w (RV (.agg #[.float .f32 B.a, .float .f32 B.b, .float .f32 B.ap, .float .f32 B.g, .bool B.x]) w) := by
  go_enter Try.func14, Try.ntmps14
  go_wp2
  refine bodyPost_ret (v := .agg #[.float .f32 B.a, .float .f32 B.b, .float .f32 B.ap, .float .f32 B.g, .bool B.x]) (by simp [results, Try.results14, go_sem]) rfl ⟨rfl, ?_⟩
  (repeat (first | exact Below.refl _ _ | refine b_drewN ?_ _ | refine b_drew ?_ | refine b_alloc ?_ _ | refine b_then ?_ (by assumption)))
end Go.Proofs.Ytdfookgncokgjad
