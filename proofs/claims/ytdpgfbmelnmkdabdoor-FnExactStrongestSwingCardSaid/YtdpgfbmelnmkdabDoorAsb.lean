/-
  errors.As at a refusal of the program's own, and the code of an error.
-/
import Derived.Test.YtdpgfbmelnmkdabDoorAsa
namespace Go.Proofs.YtdpgfbmelnmkdabDoor
open Go.RowKit Go.Extern.Stop Go.Stop Go.Extern
attribute [local go_sem ↓] Go.wp_at_zero Go.wp_at_succ
set_option linter.unusedVariables false
set_option linter.unusedSimpArgs false
set_option maxRecDepth 100000
theorem b_setQ {B : Nat} {a w : World} (h : Below B a w) {q : Nat} (hq : B ≤ q) (i : Nat) (v : Value) : Below B a (w.setCell ⟨q, i, none⟩ v) := h.setCell (p := ⟨q, i, none⟩) hq v
theorem is_error : Tryd.prog.isIface 59 = true := by kernel_rfl
theorem is_any : Tryd.prog.isIface 20 = true := by kernel_rfl
theorem as_nil (v : Value) (w : World) : Calls Tryd.prog 59 #[.nilIface, v] w fun e w' => e = .returned (.bool false) ∧ w = w' := by
  have hn : ∀ w, (binOp .eql 59 .nilIface .nilIface).run Tryd.prog w = .ok (.bool true) w := fun w => by kernel_rfl
  go_enter Tryd.func59, Tryd.ntmps59
  go_wp2
  go_ret
  exact ⟨rfl, rfl⟩
set_option maxHeartbeats 4000000 in
theorem as_in (c : Int) (q a : Nat) (x : Int) (w : World) (hq : Blk w q #[.int .i64 x] 89) (ha : Blk w a #[.pointer (some ⟨q, 0, none⟩)] 96) :
    Calls Tryd.prog 69 #[.iface 89 (.int .i64 c), .iface 96 (.pointer (some ⟨q, 0, none⟩)), .agg #[.pointer (some ⟨1, 96, none⟩), .pointer (some ⟨a, 0, none⟩), .int .u64 150], .iface 122 (.agg #[.pointer (some ⟨1, 89, none⟩)])] w fun e w' => e = .returned (.bool true) ∧ Below w.heap.size (w.setCell ⟨q, 0, none⟩ (.int .i64 c)) w' := by
  have hz : w.heap.size ≤ (w.setCell ⟨q, 0, none⟩ (.int .i64 c)).heap.size := by rw [show (w.setCell ⟨q, 0, none⟩ (.int .i64 c)).heap.size = w.heap.size from size_setCells q [.int .i64 c] w 0]; exact Nat.le_refl _
  have h1 := @run_callFunc_extern Tryd.prog 66 _ xValueOf Tryd.func66 (by kernel_rfl) (by kernel_rfl) (by kernel_rfl) (by kernel_rfl)
  have h4 := @run_callFunc_extern Tryd.prog 72 _ xElem Tryd.func72 (by kernel_rfl) (by kernel_rfl) (by kernel_rfl) (by kernel_rfl)
  have h5 := @run_callFunc_extern Tryd.prog 73 _ Extern.ReflectliteValue.set Tryd.func73 (by kernel_rfl) (by kernel_rfl) (by kernel_rfl) (by kernel_rfl)
  have h9 := @run_callFunc_extern Tryd.prog 101 _ xAssign Tryd.func101 (by kernel_rfl) (by kernel_rfl) (by kernel_rfl) (by kernel_rfl)
  have h10 := @run_callFunc_extern Tryd.prog 71 _ Extern.ReflectliteType.typeOf Tryd.func71 (by kernel_rfl) (by kernel_rfl) (by kernel_rfl) (by kernel_rfl)
  have e2 := x_ValueOf_e; have e8 := x_Assign; have e9 := x_TypeOf
  have e11 := x_Elem
  have q2 : Blk ((w.alloc (.cells #[.pointer (some ⟨1, 96, none⟩), .pointer (some ⟨a, 0, none⟩), .int .u64 150] 109)).alloc (.cells #[.int .i64 c] 89)) q #[.int .i64 x] 89 := Blk.on hq (by rfl) (b_alloc (b_alloc (Below.refl _ _) _) _)
  have b2 : Blk ((w.alloc (.cells #[.pointer (some ⟨1, 96, none⟩), .pointer (some ⟨a, 0, none⟩), .int .u64 150] 109)).alloc (.cells #[.int .i64 c] 89)) (w.heap.size + 1) #[.int .i64 c] 89 := by
    have e : (w.alloc (.cells #[.pointer (some ⟨1, 96, none⟩), .pointer (some ⟨a, 0, none⟩), .int .u64 150] 109)).heap.size = w.heap.size + 1 := by simp
    rw [← e]
    exact Blk.new _ _ _
  have e12 := x_Set q (w.heap.size + 1) c ((w.alloc (.cells #[.pointer (some ⟨1, 96, none⟩), .pointer (some ⟨a, 0, none⟩), .int .u64 150] 109)).alloc (.cells #[.int .i64 c] 89)) ((b2.cell 0).trans rfl) (by rw [q2.cell 0]; rfl) (q2.frozen 0)
  clear q2 b2
  have m4 := m_Assign
  have hqs := hq.lt
  have c0 := hq.cell 0
  simp at c0
  have f0 := hq.frozen 0
  have has := ha.lt
  have d0 := ha.cell 0
  simp at d0
  clear hq ha
  go_enter Tryd.func69, Tryd.ntmps69
  go_wp2_with fail
  refine wp_loop_rounds 1 ?_
  rw [rounds_succ]
  go_wp2_with fail
  go_ret
  exact ⟨rfl, ((Below.refl _ _).alloc hz _).alloc (by simp) _⟩
set_option maxHeartbeats 4000000 in
theorem as_ok (c : Int) (q : Nat) (x : Int) (w : World) (hq : Blk w q #[.int .i64 x] 89) (hE : EtAt w) :
    Calls Tryd.prog 59 #[.iface 89 (.int .i64 c), .iface 96 (.pointer (some ⟨q, 0, none⟩))] w fun e w' => e = .returned (.bool true) ∧ ∃ w2, Below w.heap.size w w2 ∧ Below w.heap.size (w2.setCell ⟨q, 0, none⟩ (.int .i64 c)) w' := by
  have h1 := @run_callFunc_extern Tryd.prog 66 _ xValueOf Tryd.func66 (by kernel_rfl) (by kernel_rfl) (by kernel_rfl) (by kernel_rfl)
  have h2 := @run_callFunc_extern Tryd.prog 67 _ xType Tryd.func67 (by kernel_rfl) (by kernel_rfl) (by kernel_rfl) (by kernel_rfl)
  have h3 := @run_callFunc_extern Tryd.prog 68 _ xIsNil Tryd.func68 (by kernel_rfl) (by kernel_rfl) (by kernel_rfl) (by kernel_rfl)
  have h4 := @run_callFunc_extern Tryd.prog 72 _ xElem Tryd.func72 (by kernel_rfl) (by kernel_rfl) (by kernel_rfl) (by kernel_rfl)
  have h5 := @run_callFunc_extern Tryd.prog 73 _ Extern.ReflectliteValue.set Tryd.func73 (by kernel_rfl) (by kernel_rfl) (by kernel_rfl) (by kernel_rfl)
  have h6 := @run_callFunc_extern Tryd.prog 89 _ xKind Tryd.func89 (by kernel_rfl) (by kernel_rfl) (by kernel_rfl) (by kernel_rfl)
  have h7 := @run_callFunc_extern Tryd.prog 103 _ xTElem Tryd.func103 (by kernel_rfl) (by kernel_rfl) (by kernel_rfl) (by kernel_rfl)
  have h8 := @run_callFunc_extern Tryd.prog 104 _ xImpl Tryd.func104 (by kernel_rfl) (by kernel_rfl) (by kernel_rfl) (by kernel_rfl)
  have h9 := @run_callFunc_extern Tryd.prog 101 _ xAssign Tryd.func101 (by kernel_rfl) (by kernel_rfl) (by kernel_rfl) (by kernel_rfl)
  have h10 := @run_callFunc_extern Tryd.prog 71 _ Extern.ReflectliteType.typeOf Tryd.func71 (by kernel_rfl) (by kernel_rfl) (by kernel_rfl) (by kernel_rfl)
  have e1 := x_ValueOf_p; have e2 := x_ValueOf_e; have e3 := x_Type; have e4 := x_Kind_p; have e5 := x_Kind_e; have e6 := x_TElem; have e7 := x_Impl; have e8 := x_Assign; have e9 := x_TypeOf
  have e10 := x_IsNil; have e11 := x_Elem; have e12 := x_Set
  have m1 := m_Kind; have m2 := m_Elem; have m3 := m_Impl; have m4 := m_Assign
  have n1 := run_eql_iface_nil (P := Tryd.prog)
  have n2 := is_error; have n3 := is_any
  have hqs := hq.lt
  have c0 := hq.cell 0
  simp at c0
  have f0 := hq.frozen 0
  have cE := hE.cell
  have hg := hE.lt
  have HQ := Lib.hid hq; have HE := Lib.hid hE
  clear hq hE
  go_enter Tryd.func59, Tryd.ntmps59
  go_wp2_with fail
  have k1 : Blk ((w.alloc (.cells #[.pointer (some ⟨q, 0, none⟩)] 96)).alloc (.cells #[.pointer (some ⟨1, 96, none⟩), .pointer (some ⟨w.heap.size, 0, none⟩), .int .u64 150] 109)) w.heap.size #[.pointer (some ⟨q, 0, none⟩)] 96 := (Below.heap_alloc _ _ _ (by simp)).trans (Blk.new _ _ _)
  refine (as_in c q w.heap.size x _ (Blk.on HQ.out (by rfl) (b_alloc (b_alloc (Below.refl _ _) _) _)) k1).mono ?_
  rintro e w1 ⟨rfl, b1⟩
  have B1 := Lib.hid b1
  clear b1 k1
  go_wp2
  go_ret
  exact ⟨rfl, _, b_alloc (b_alloc (Below.refl _ _) _) _, B1.out.mono (by simp; omega)⟩
/-- The code of an error: that of a refusal, or none. -/
theorem refusedCode_ok (c : Int) (w : World) (hE : EtAt w) : Calls Tryd.prog 32 #[.iface 89 (.int .i64 c)] w (RV (.int .i64 c) w) := by
  have k0 : Blk (w.alloc (.cells #[.int .i64 0] 89)) w.heap.size #[.int .i64 0] 89 := Blk.new _ _ _
  have hE2 : EtAt (w.alloc (.cells #[.int .i64 0] 89)) := hE.on (W := w) rfl (b_alloc (Below.refl _ _) _)
  have hs := k0.lt
  have K0 := Lib.hid k0; have HE := Lib.hid hE2
  clear k0 hE hE2
  go_enter Tryd.func32, Tryd.ntmps32
  go_wp2_with fail
  refine (as_ok c w.heap.size 0 _ K0.out HE.out).mono ?_
  rintro e w1 ⟨rfl, w2, b2, b1⟩
  have k2 := Blk.set (Blk.on K0.out (by rfl) b2) 0 (.int .i64 c)
  have k3 : Blk w1 w.heap.size _ _ := (b1.block w.heap.size hs).trans k2
  have c0 := k3.cell 0
  simp at c0
  have hB : Hid (Below w.heap.size w w1) := (b_setQ (b_then (b_alloc (Below.refl _ _) _) b2) (Nat.le_refl _) 0 (.int .i64 c)).trans (b1.mono (Nat.le_of_lt hs))
  clear k2 k3 b1 b2
  go_wp2
  go_ret
  exact ⟨rfl, hB.out⟩
theorem refusedCode_nil (w : World) : Calls Tryd.prog 32 #[.nilIface] w (RV (.int .i64 0) w) := by
  go_enter Tryd.func32, Tryd.ntmps32
  go_wp2_with fail
  refine (as_nil _ _).mono ?_
  rintro e w1 ⟨rfl, rfl⟩
  go_wp2
  go_ret
  exact ⟨rfl, b_alloc (Below.refl _ _) _⟩
end Go.Proofs.YtdpgfbmelnmkdabDoor
