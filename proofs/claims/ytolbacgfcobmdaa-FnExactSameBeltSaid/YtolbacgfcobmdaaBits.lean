/-
  What tells belts apart: the bits of their numbers.
-/
import Derived.Test.YtolbacgfcobmdaaBase
import Derived.Test.YtolbacgfcobmdaaBl
import Derived.Test.YtolbacgfcobmdaaQTail
namespace Go.Proofs.Ytolbacgfcobmdaa
open Go.RowKit Go.ChangeShapes Go.WideShapes Go.Deep
attribute [local go_sem ↓] Go.wp_at_zero Go.wp_at_succ
set_option linter.unusedVariables false
set_option linter.unusedSimpArgs false
theorem bits_callB (b : Nat) (w : World) : (callFunc 59 #[.float .f32 b]).run Try.prog w = .ok (.value (.int .u32 b)) w := by
  rw [run_callFunc_extern (fn := Try.f59) (e := Extern.MathFloatBits.float32bits) Try.func59 (by kernel_rfl) (by kernel_rfl) (by kernel_rfl) (by kernel_rfl)]
  rfl
attribute [local go_sem] bits_callB
theorem bitsOf_any (a : Nat) (w : World) : Calls Try.prog 61 #[.float .f32 a] w fun e w' => e = .returned (.int .u32 (cn a)) ∧ ∃ n, w' = w.drewN n := by
  cases ha : nan32 a
  · have a2 := fun w => run_wide (P := Try.prog) w 24 31 a (by rw [Try.underlying24]; rfl) Try.underlying31 ha
    have a3 := order_self (wide_some ha).2
    have e := Lib.hid (cn_of_not ha)
    clear ha
    go_enter Try.func61, Try.ntmps61
    go_wp2
    go_ret
    exact ⟨by rw [e.out]; rfl, 0, rfl⟩
  · have a2 := fun w => run_nan_wide (P := Try.prog) w 24 31 a (by rw [Try.underlying24]; rfl) Try.underlying31 ha
    have a3 := fun w => order_nan_left (nanTo w a) (nanTo_nan w a)
    have e := Lib.hid (cn_of_nan ha)
    clear ha
    go_enter Try.func61, Try.ntmps61
    go_wp2
    go_ret
    exact ⟨by rw [e.out]; rfl, 1, rfl⟩
/-- What lies in a block. -/
def Blk (w : World) (q : Nat) (cs : Array Value) (t : TypeId) : Prop := w.heap[q]? = some (.cells cs t (0, 0))
theorem Blk.new (w : World) (cs : Array Value) (t : TypeId) : Blk (w.alloc (.cells cs t)) w.heap.size cs t := heap_alloc_new w _
theorem Blk.draws {w : World} {q : Nat} {cs : Array Value} {t : TypeId} (h : Blk w q cs t) (n : Nat) : Blk (w.drewN n) q cs t := h
theorem Blk.set {w : World} {q : Nat} {cs : Array Value} {t : TypeId} (h : Blk w q cs t) (i : Nat) (v : Value) : Blk (w.setCell ⟨q, i, none⟩ v) q (cs.setIfInBounds i v) t := heap_setCell_same w q i cs t v h
theorem Blk.cell {w : World} {q : Nat} {cs : Array Value} {t : TypeId} (h : Blk w q cs t) (i : Nat) : w.cell? ⟨q, i, none⟩ = cs[i]? := cell_of_row _ _ i _ _ _ h
theorem Blk.lt {w : World} {q : Nat} {cs : Array Value} {t : TypeId} (h : Blk w q cs t) : q < w.heap.size := (Array.getElem?_eq_some_iff.1 h).1
theorem Blk.on {w W w' : World} {q : Nat} {cs : Array Value} {t : TypeId} (h : Blk w q cs t) (hW : W.heap = w.heap) (b : Below W.heap.size W w') : Blk w' q cs t := (b.block q (by rw [hW]; exact h.lt)).trans (by rw [hW]; exact h)
theorem ret_blk5 {fn : Func} {tmps : Array Value} {W : World} {q : Nat} {a b c d e : Value} (ha : a.oneCell' = true) (hb : b.oneCell' = true) (hc : c.oneCell' = true) (hd : d.oneCell' = true) (he : e.oneCell' = true) (hr : fn.results = #[.cell 2 78]) (h2 : tmps.getD 2 undef = .pointer (some ⟨q, 0, none⟩)) (Z : Blk W q #[a, b, c, d, e] 78) :
    (results fn tmps).run Try.prog W = .ok (.agg #[a, b, c, d, e]) W := by
  have e0 := Z.cell 0; have e1 := Z.cell 1; have e2 := Z.cell 2; have e3 := Z.cell 3; have e4 := Z.cell 4
  simp at e0 e1 e2 e3 e4
  rw [Array.getD_eq_getD_getElem?] at h2
  simp [results, hr, h2, go_sem, e0, e1, e2, e3, e4]
theorem b_set {B : Nat} {a w : World} (h : Below B a w) {q : Nat} (hq : B ≤ q) (i : Nat) (v : Value) : Below B a (w.setCell ⟨q, i, none⟩ v) := h.setCell (p := ⟨q, i, none⟩) hq v
set_option maxRecDepth 100000 in
set_option maxHeartbeats 4000000 in
theorem beltBits_any (B : Bl) (w : World) : Calls Try.prog 48 #[.agg #[.float .f32 B.a, .float .f32 B.b, .float .f32 B.ap, .float .f32 B.g, .bool B.x]] w (RV (.agg #[.int .u32 (cn B.a), .int .u32 (cn B.b), .int .u32 (cn B.ap), .int .u32 (cn B.g), .bool B.x]) w) := by
  go_enter Try.func48, Try.ntmps48
  go_wp2_with fail
  (refine wp_quiet_tail 15 (by kernel_rfl) (by kernel_rfl) (by kernel_rfl) ?_; simp only [List.take_succ_cons, List.take_zero, List.drop_succ_cons, List.drop_zero])
  repeat (quiet_step ((go_at_call 61; exact Calls.quiet_of (bitsOf_any _ _))))
  refine wpQuiet_nil ?_
  intro _ hw'
  obtain ⟨nq, hw''⟩ := hw'
  subst hw''
  go_wp2
  have z0 : Blk ((w.alloc (.cells #[.float .f32 B.a, .float .f32 B.b, .float .f32 B.ap, .float .f32 B.g, .bool B.x] 44)).alloc (.cells #[.int .u32 0, .int .u32 0, .int .u32 0, .int .u32 0, .bool false] 78)) (w.heap.size + 1) #[.int .u32 0, .int .u32 0, .int .u32 0, .int .u32 0, .bool false] 78 := by
    have e : (w.alloc (.cells #[.float .f32 B.a, .float .f32 B.b, .float .f32 B.ap, .float .f32 B.g, .bool B.x] 44)).heap.size = w.heap.size + 1 := by simp
    rw [← e]
    exact Blk.new _ _ _
  have bw : Below w.heap.size w ((w.alloc (.cells #[.float .f32 B.a, .float .f32 B.b, .float .f32 B.ap, .float .f32 B.g, .bool B.x] 44)).alloc (.cells #[.int .u32 0, .int .u32 0, .int .u32 0, .int .u32 0, .bool false] 78)) := b_alloc (b_alloc (Below.refl _ _) _) _
  generalize ((w.alloc (.cells #[.float .f32 B.a, .float .f32 B.b, .float .f32 B.ap, .float .f32 B.g, .bool B.x] 44)).alloc (.cells #[.int .u32 0, .int .u32 0, .int .u32 0, .int .u32 0, .bool false] 78)) = W at *
  have z1 : Blk _ (w.heap.size + 1) #[.int .u32 (cn B.a), .int .u32 0, .int .u32 0, .int .u32 0, .bool false] 78 := (z0.draws nq).set 0 (.int .u32 (cn B.a))
  have z2 : Blk _ (w.heap.size + 1) #[.int .u32 (cn B.a), .int .u32 (cn B.b), .int .u32 0, .int .u32 0, .bool false] 78 := z1.set 1 (.int .u32 (cn B.b))
  have z3 : Blk _ (w.heap.size + 1) #[.int .u32 (cn B.a), .int .u32 (cn B.b), .int .u32 (cn B.ap), .int .u32 0, .bool false] 78 := z2.set 2 (.int .u32 (cn B.ap))
  have z4 : Blk _ (w.heap.size + 1) #[.int .u32 (cn B.a), .int .u32 (cn B.b), .int .u32 (cn B.ap), .int .u32 (cn B.g), .bool false] 78 := z3.set 3 (.int .u32 (cn B.g))
  have z5 : Blk _ (w.heap.size + 1) #[.int .u32 (cn B.a), .int .u32 (cn B.b), .int .u32 (cn B.ap), .int .u32 (cn B.g), .bool B.x] 78 := z4.set 4 (.bool B.x)
  refine bodyPost_ret (ret_blk5 rfl rfl rfl rfl rfl Try.results48 rfl z5) rfl ⟨rfl, ?_⟩
  have q1 : w.heap.size ≤ w.heap.size + 1 := by omega
  exact b_set (b_set (b_set (b_set (b_set (b_drewN bw nq) q1 _ _) q1 _ _) q1 _ _) q1 _ _) q1 _ _
end Go.Proofs.Ytolbacgfcobmdaa
