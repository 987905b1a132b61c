/-
  What tells structs apart: machinery.
-/
import Derived.Test.YtjkgiknklkfipaaDoorOps
import Derived.Test.YtjkgiknklkfipaaDoorQTail
import Derived.Laws.StructEq
import Derived.Deep.RegionLaw
import Derived.Deep.DeepCutAuto
import Derived.ChangeArms
import Derived.Deep.Slices
namespace Go.Proofs.YtjkgiknklkfipaaDoor
open Go.RowKit Go.ChangeShapes Go.WideShapes Go.Deep
attribute [local go_sem ↓] Go.wp_at_zero Go.wp_at_succ
set_option linter.unusedVariables false
set_option linter.unusedSimpArgs false
set_option maxRecDepth 100000
theorem bits_callB (b : Nat) (w : World) : (callFunc 116 #[.float .f32 b]).run Tryd.prog w = .ok (.value (.int .u32 b)) w := by
  rw [run_callFunc_extern (fn := Tryd.f116) (e := Extern.MathFloatBits.float32bits) Tryd.func116 (by kernel_rfl) (by kernel_rfl) (by kernel_rfl) (by kernel_rfl)]
  rfl
attribute [local go_sem] bits_callB
theorem bitsOf_any (a : Nat) (w : World) : Calls Tryd.prog 105 #[.float .f32 a] w fun e w' => e = .returned (.int .u32 (cn a)) ∧ ∃ n, w' = w.drewN n := by
  cases ha : nan32 a
  · have a2 := fun w => run_wide (P := Tryd.prog) w 24 84 a (by rw [Tryd.underlying24]; rfl) Tryd.underlying84 ha
    have a3 := order_self (wide_some ha).2
    have e := Lib.hid (cn_of_not ha)
    clear ha
    go_enter Tryd.func105, Tryd.ntmps105
    go_wp2
    go_ret
    exact ⟨by rw [e.out]; rfl, 0, rfl⟩
  · have a2 := fun w => run_nan_wide (P := Tryd.prog) w 24 84 a (by rw [Tryd.underlying24]; rfl) Tryd.underlying84 ha
    have a3 := fun w => order_nan_left (nanTo w a) (nanTo_nan w a)
    have e := Lib.hid (cn_of_nan ha)
    clear ha
    go_enter Tryd.func105, Tryd.ntmps105
    go_wp2
    go_ret
    exact ⟨by rw [e.out]; rfl, 1, rfl⟩
/-- What lies in a block. -/
def Blk (w : World) (q : Nat) (cs : Array Value) (t : TypeId) : Prop := w.heap[q]? = some (.cells cs t (0, 0))
theorem Blk.new (w : World) (cs : Array Value) (t : TypeId) : Blk (w.alloc (.cells cs t)) w.heap.size cs t := heap_alloc_new w _
theorem Blk.draws {w : World} {q : Nat} {cs : Array Value} {t : TypeId} (h : Blk w q cs t) (n : Nat) : Blk (w.drewN n) q cs t := h
theorem Blk.set {w : World} {q : Nat} {cs : Array Value} {t : TypeId} (h : Blk w q cs t) (i : Nat) (v : Value) : Blk (w.setCell ⟨q, i, none⟩ v) q (cs.setIfInBounds i v) t := heap_setCell_same w q i cs t v h
theorem Blk.cell {w : World} {q : Nat} {cs : Array Value} {t : TypeId} (h : Blk w q cs t) (i : Nat) : w.cell? ⟨q, i, none⟩ = cs[i]? := cell_of_row _ _ i _ _ _ h
theorem Blk.lt {w : World} {q : Nat} {cs : Array Value} {t : TypeId} (h : Blk w q cs t) : q < w.heap.size := (Array.getElem?_eq_some_iff.1 h).1
theorem Blk.on {w W w' : World} {q : Nat} {cs : Array Value} {t : TypeId} (h : Blk w q cs t) (hW : W.heap = w.heap) (b : Below W.heap.size W w') : Blk w' q cs t := (b.block q (by rw [hW]; exact h.lt)).trans (by rw [hW]; exact h)
theorem b_set {B : Nat} {a w : World} (h : Below B a w) {q : Nat} (hq : B ≤ q) (i : Nat) (v : Value) : Below B a (w.setCell ⟨q, i, none⟩ v) := h.setCell (p := ⟨q, i, none⟩) hq v
/-- One number, up to which NaN. -/
def sB (a b : Nat) : Bool := decide (cn a = cn b)
theorem natBeqS (a b : Nat) : ((a : Int) == (b : Int)) = decide (a = b) := by
  by_cases h : a = b
  · subst h; simp
  · have h1 : ¬ ((a : Int) = (b : Int)) := by omega
    rw [beq_eq_false_iff_ne.2 h1, decide_eq_false h]
theorem sB_beq (a b : Nat) : ((cn a : Int) == (cn b : Int)) = sB a b := natBeqS _ _
end Go.Proofs.YtjkgiknklkfipaaDoor
