/-
  One cell that is a block of its own.
-/
import Derived.Test.YtaodpopghacmaaaDoorBase
import Derived.Test.YtaodpopghacmaaaDoorBlk
namespace Go.Proofs.YtaodpopghacmaaaDoor
open Go.RowKit Go.ChangeShapes Go.WideShapes Go.Deep
def One (w : World) (q : Nat) (v : Value) (t : TypeId) : Prop := w.heap[q]? = some (.cells #[v] t (0, 0))
theorem One.lt {w : World} {q : Nat} {v : Value} {t : TypeId} (h : One w q v t) : q < w.heap.size := (Array.getElem?_eq_some_iff.1 h).1
theorem One.cell {w : World} {q : Nat} {v : Value} {t : TypeId} (h : One w q v t) : w.cell? ⟨q, 0, none⟩ = some v := cell_of_row _ _ 0 _ _ _ h
theorem One.on {w W w' : World} {q : Nat} {v : Value} {t : TypeId} (h : One w q v t) (hW : W.heap = w.heap) (b : Below W.heap.size W w') : One w' q v t := (b.block q (by rw [hW]; exact h.lt)).trans (by rw [hW]; exact h)
theorem One.new (w : World) (v : Value) (t : TypeId) : One (w.alloc (.cells #[v] t)) w.heap.size v t := heap_alloc_new w _
theorem One.push {w : World} {q : Nat} {v : Value} {t : TypeId} (h : One w q v t) (o : Obj) : One (w.alloc o) q v t := h.on (W := w) rfl (b_alloc (Below.refl _ _) o)
theorem One.set {w : World} {q : Nat} {x : Value} {t : TypeId} (h : One w q x t) (v : Value) : One (w.setCell ⟨q, 0, none⟩ v) q v t := heap_setCell_same w q 0 #[x] t v h
theorem One.setO {w : World} {q q' : Nat} {x : Value} {t : TypeId} (h : One w q x t) (hne : q ≠ q') (v : Value) : One (w.setCell ⟨q', 0, none⟩ v) q x t := (Below.heap_setCell w ⟨q', 0, none⟩ v q hne).trans h
theorem One.frozen {w : World} {q : Nat} {v : Value} {t : TypeId} (h : One w q v t) : w.frozen? ⟨q, 0, none⟩ = false := by
  unfold World.frozen?
  rw [h]
  simp
end Go.Proofs.YtaodpopghacmaaaDoor
