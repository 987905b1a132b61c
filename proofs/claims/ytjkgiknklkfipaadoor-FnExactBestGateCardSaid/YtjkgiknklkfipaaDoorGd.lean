/-
  A governed mill by value: how it is made, what it is told apart by, the errors of a state.
-/
import Derived.Test.YtjkgiknklkfipaaDoorSm
import Derived.Test.YtjkgiknklkfipaaDoorFlow
import Derived.Test.YtjkgiknklkfipaaDoorWl
import Derived.Carry
namespace Go.Proofs.YtjkgiknklkfipaaDoor
open Go.RowKit Go.ChangeShapes Go.WideShapes Go.Deep
attribute [local go_sem ↓] Go.wp_at_zero Go.wp_at_succ
attribute [local go_sem] bits_callB
set_option linter.unusedVariables false
set_option linter.unusedSimpArgs false
set_option maxRecDepth 100000
theorem ret_bitsMl {fn : Func} {tmps : Array Value} {W : World} {q : Nat} {a0 a1 a2 : Value} (ha0 : a0.oneCell' = true) (ha1 : a1.oneCell' = true) (ha2 : a2.oneCell' = true) (hr : fn.results = #[.cell 2 151]) (h2 : tmps.getD 2 undef = .pointer (some ⟨q, 0, none⟩)) (Z : Blk W q #[a0, a1, a2] 151) :
    (results fn tmps).run Tryd.prog W = .ok (.agg #[a0, a1, a2]) W := by
  have e0 := Z.cell 0
  have e1 := Z.cell 1
  have e2 := Z.cell 2
  simp at e0 e1 e2
  rw [Array.getD_eq_getD_getElem?] at h2
  simp [results, hr, h2, go_sem, e0, e1, e2]
set_option maxRecDepth 100000 in
set_option maxHeartbeats 4000000 in
theorem bitsMl_any (X : Ml) (w : World) : Calls Tryd.prog 104 #[.agg #[.int .i16 X.b, .float .f32 X.h, .float .f32 X.r]] w (RV (.agg #[.int .i16 X.b, .int .u32 (cn X.h), .int .u32 (cn X.r)]) w) := by
  go_enter Tryd.func104, Tryd.ntmps104
  go_wp2_with fail
  (refine wp_quiet_tail 9 (by kernel_rfl) (by kernel_rfl) (by kernel_rfl) ?_; simp only [List.take_succ_cons, List.take_zero, List.drop_succ_cons, List.drop_zero])
  repeat (quiet_step ((go_at_call 105; exact Calls.quiet_of (bitsOf_any _ _))))
  refine wpQuiet_nil ?_
  intro _ hw'
  obtain ⟨nq, hw''⟩ := hw'
  subst hw''
  go_wp2
  have z0 : Blk ((w.alloc (.cells #[.int .i16 X.b, .float .f32 X.h, .float .f32 X.r] 56)).alloc (.cells #[.int .i16 0, .int .u32 0, .int .u32 0] 151)) (w.heap.size + 1) #[.int .i16 0, .int .u32 0, .int .u32 0] 151 := by
    have e : (w.alloc (.cells #[.int .i16 X.b, .float .f32 X.h, .float .f32 X.r] 56)).heap.size = w.heap.size + 1 := by simp
    rw [← e]
    exact Blk.new _ _ _
  have bw : Below w.heap.size w ((w.alloc (.cells #[.int .i16 X.b, .float .f32 X.h, .float .f32 X.r] 56)).alloc (.cells #[.int .i16 0, .int .u32 0, .int .u32 0] 151)) := b_alloc (b_alloc (Below.refl _ _) _) _
  generalize ((w.alloc (.cells #[.int .i16 X.b, .float .f32 X.h, .float .f32 X.r] 56)).alloc (.cells #[.int .i16 0, .int .u32 0, .int .u32 0] 151)) = W at *
  have z1 : Blk _ (w.heap.size + 1) #[.int .i16 X.b, .int .u32 0, .int .u32 0] 151 := (z0.draws nq).set 0 (.int .i16 X.b)
  have z2 : Blk _ (w.heap.size + 1) #[.int .i16 X.b, .int .u32 (cn X.h), .int .u32 0] 151 := z1.set 1 (.int .u32 (cn X.h))
  have z3 : Blk _ (w.heap.size + 1) #[.int .i16 X.b, .int .u32 (cn X.h), .int .u32 (cn X.r)] 151 := z2.set 2 (.int .u32 (cn X.r))
  refine bodyPost_ret (ret_bitsMl rfl rfl rfl Tryd.results104 rfl z3) rfl ⟨rfl, ?_⟩
  have q1 : w.heap.size ≤ w.heap.size + 1 := by omega
  exact b_set (b_set (b_set (b_drewN bw nq) q1 _ _) q1 _ _) q1 _ _
/-- A governed mill lies in block q. -/
def AtGd (w : World) (q : Nat) (G : Gv) (p : Nat) : Prop := w.heap[q]? = some (.cells #[.int .i16 G.mb, .float .f32 G.mh, .float .f32 G.mr, .int .i16 G.mb, .float .f32 G.mh, .float .f32 G.mr, .float .f32 G.ar, .float .f32 G.he, .float .f32 G.lo, .float .f32 G.hi, .float .f32 G.ine, .map (some p)] 98 (0, 0))
theorem AtGd.lt {w : World} {q p : Nat} {G : Gv} (h : AtGd w q G p) : q < w.heap.size := (Array.getElem?_eq_some_iff.1 h).1
theorem AtGd.on {w W w' : World} {q p : Nat} {G : Gv} (h : AtGd w q G p) (hW : W.heap = w.heap) (b : Below W.heap.size W w') : AtGd w' q G p := (b.block q (by rw [hW]; exact h.lt)).trans (by rw [hW]; exact h)
theorem AtGd.new (w : World) (G : Gv) (p : Nat) : AtGd (w.alloc (.cells #[.int .i16 G.mb, .float .f32 G.mh, .float .f32 G.mr, .int .i16 G.mb, .float .f32 G.mh, .float .f32 G.mr, .float .f32 G.ar, .float .f32 G.he, .float .f32 G.lo, .float .f32 G.hi, .float .f32 G.ine, .map (some p)] 98)) w.heap.size G p := heap_alloc_new w _
theorem AtGd.push {w : World} {q p : Nat} {G : Gv} (h : AtGd w q G p) (o : Obj) : AtGd (w.alloc o) q G p := h.on (W := w) rfl (b_alloc (Below.refl _ _) o)
theorem AtGd.cells {w : World} {q p : Nat} {G : Gv} (h : AtGd w q G p) : w.cell? ⟨q, 0, none⟩ = some (.int .i16 G.mb) ∧ w.cell? ⟨q, 1, none⟩ = some (.float .f32 G.mh) ∧ w.cell? ⟨q, 2, none⟩ = some (.float .f32 G.mr) ∧ w.cell? ⟨q, 3, none⟩ = some (.int .i16 G.mb) ∧ w.cell? ⟨q, 4, none⟩ = some (.float .f32 G.mh) ∧ w.cell? ⟨q, 5, none⟩ = some (.float .f32 G.mr) ∧ w.cell? ⟨q, 6, none⟩ = some (.float .f32 G.ar) ∧ w.cell? ⟨q, 7, none⟩ = some (.float .f32 G.he) ∧ w.cell? ⟨q, 8, none⟩ = some (.float .f32 G.lo) ∧ w.cell? ⟨q, 9, none⟩ = some (.float .f32 G.hi) ∧ w.cell? ⟨q, 10, none⟩ = some (.float .f32 G.ine) ∧ w.cell? ⟨q, 11, none⟩ = some (.map (some p)) :=
  ⟨cell_of_row _ _ 0 _ _ _ h, cell_of_row _ _ 1 _ _ _ h, cell_of_row _ _ 2 _ _ _ h, cell_of_row _ _ 3 _ _ _ h, cell_of_row _ _ 4 _ _ _ h, cell_of_row _ _ 5 _ _ _ h, cell_of_row _ _ 6 _ _ _ h, cell_of_row _ _ 7 _ _ _ h, cell_of_row _ _ 8 _ _ _ h, cell_of_row _ _ 9 _ _ _ h, cell_of_row _ _ 10 _ _ _ h, cell_of_row _ _ 11 _ _ _ h⟩
theorem heap_third (w : World) (a b o : Obj) : (((w.alloc a).alloc b).alloc o).heap[w.heap.size + 2]? = some o := by
  have e : ((w.alloc a).alloc b).heap.size = w.heap.size + 2 := by simp
  rw [← e]
  exact heap_alloc_new _ _
theorem governedBy_any (G : Gv) (w : World) : Calls Tryd.prog 56 #[.agg #[.int .i16 G.mb, .float .f32 G.mh, .float .f32 G.mr, .float .f32 G.ar, .float .f32 G.he, .float .f32 G.lo, .float .f32 G.hi, .float .f32 G.ine]] w fun e w' => ∃ p, e = .returned (.agg #[.int .i16 G.mb, .float .f32 G.mh, .float .f32 G.mr, .int .i16 G.mb, .float .f32 G.mh, .float .f32 G.mr, .float .f32 G.ar, .float .f32 G.he, .float .f32 G.lo, .float .f32 G.hi, .float .f32 G.ine, .map (some p)]) ∧ w'.heap[p]? = some (.map #[] 0) ∧ w.heap.size ≤ p ∧ Below w.heap.size w w' := by
  have hm := fun w => run_makeMap (P := Tryd.prog) 96 w
  go_enter Tryd.func56, Tryd.ntmps56
  go_wp2
  refine bodyPost_ret (v := .agg #[.int .i16 G.mb, .float .f32 G.mh, .float .f32 G.mr, .int .i16 G.mb, .float .f32 G.mh, .float .f32 G.mr, .float .f32 G.ar, .float .f32 G.he, .float .f32 G.lo, .float .f32 G.hi, .float .f32 G.ine, .map (some (w.heap.size + 2))]) (by simp [results, Tryd.results56, go_sem]) rfl ⟨w.heap.size + 2, rfl, ?_, by omega, ?_⟩
  · exact heap_third _ _ _ _
  · (repeat (first | exact Below.refl _ _ | refine b_drewN ?_ _ | refine b_drew ?_ | refine b_alloc ?_ _ | refine b_then ?_ (by assumption)))
end Go.Proofs.YtjkgiknklkfipaaDoor
