/-
  What lies in a block of one's own.
-/
import Derived.Test.YtjkgiknklkfipaaOps
import Derived.ChangeArms
import Derived.Deep.Slices
namespace Go.Proofs.Ytjkgiknklkfipaa
open Go.RowKit Go.ChangeShapes Go.WideShapes Go.Deep
def Blk (w : World) (q : Nat) (cs : Array Value) (t : TypeId) : Prop := w.heap[q]? = some (.cells cs t (0, 0))
theorem Blk.new (w : World) (cs : Array Value) (t : TypeId) : Blk (w.alloc (.cells cs t)) w.heap.size cs t := heap_alloc_new w _
theorem Blk.draws {w : World} {q : Nat} {cs : Array Value} {t : TypeId} (h : Blk w q cs t) (n : Nat) : Blk (w.drewN n) q cs t := h
theorem Blk.set {w : World} {q : Nat} {cs : Array Value} {t : TypeId} (h : Blk w q cs t) (i : Nat) (v : Value) : Blk (w.setCell ⟨q, i, none⟩ v) q (cs.setIfInBounds i v) t := heap_setCell_same w q i cs t v h
theorem Blk.cell {w : World} {q : Nat} {cs : Array Value} {t : TypeId} (h : Blk w q cs t) (i : Nat) : w.cell? ⟨q, i, none⟩ = cs[i]? := cell_of_row _ _ i _ _ _ h
theorem Blk.lt {w : World} {q : Nat} {cs : Array Value} {t : TypeId} (h : Blk w q cs t) : q < w.heap.size := (Array.getElem?_eq_some_iff.1 h).1
theorem Blk.on {w W w' : World} {q : Nat} {cs : Array Value} {t : TypeId} (h : Blk w q cs t) (hW : W.heap = w.heap) (b : Below W.heap.size W w') : Blk w' q cs t := (b.block q (by rw [hW]; exact h.lt)).trans (by rw [hW]; exact h)
theorem Blk.frozen {w : World} {q : Nat} {cs : Array Value} {t : TypeId} (h : Blk w q cs t) (i : Nat) : w.frozen? ⟨q, i, none⟩ = false := by
  unfold World.frozen?
  rw [h]
  simp
theorem Blk.setO {w : World} {q q' : Nat} {cs : Array Value} {t : TypeId} (h : Blk w q cs t) (hne : q ≠ q') (i : Nat) (v : Value) : Blk (w.setCell ⟨q', i, none⟩ v) q cs t := (Below.heap_setCell w ⟨q', i, none⟩ v q hne).trans h
end Go.Proofs.Ytjkgiknklkfipaa
