/-
  errors.As at a refusal of the program's own, and the code of an error.
-/
import Derived.Test.YtaodpopghacmaaaDoorAsa
namespace Go.Proofs.YtaodpopghacmaaaDoor
open Go.RowKit Go.Extern.Stop Go.Stop Go.Extern
attribute [local go_sem ↓] Go.wp_at_zero Go.wp_at_succ
set_option linter.unusedVariables false
set_option linter.unusedSimpArgs false
set_option maxRecDepth 100000
theorem b_setQ {B : Nat} {a w : World} (h : Below B a w) {q : Nat} (hq : B ≤ q) (i : Nat) (v : Value) : Below B a (w.setCell ⟨q, i, none⟩ v) := h.setCell (p := ⟨q, i, none⟩) hq v
theorem is_error : Tryd.prog.isIface 43 = true := by kernel_rfl
theorem is_any : Tryd.prog.isIface 20 = true := by kernel_rfl
theorem as_nil (v : Value) (w : World) : Calls Tryd.prog 40 #[.nilIface, v] w fun e w' => e = .returned (.bool false) ∧ w = w' := by
  have hn : ∀ w, (binOp .eql 43 .nilIface .nilIface).run Tryd.prog w = .ok (.bool true) w := fun w => by kernel_rfl
  go_enter Tryd.func40, Tryd.ntmps40
  go_wp2
  go_ret
  exact ⟨rfl, rfl⟩
set_option maxHeartbeats 4000000 in
theorem as_in (c : Int) (q a : Nat) (x : Int) (w : World) (hq : Blk w q #[.int .i64 x] 67) (ha : Blk w a #[.pointer (some ⟨q, 0, none⟩)] 71) :
    Calls Tryd.prog 47 #[.iface 67 (.int .i64 c), .iface 71 (.pointer (some ⟨q, 0, none⟩)), .agg #[.pointer (some ⟨2, 71, none⟩), .pointer (some ⟨a, 0, none⟩), .int .u64 150], .iface 91 (.agg #[.pointer (some ⟨2, 67, none⟩)])] w fun e w' => e = .returned (.bool true) ∧ Below w.heap.size (w.setCell ⟨q, 0, none⟩ (.int .i64 c)) w' := by
  have hz : w.heap.size ≤ (w.setCell ⟨q, 0, none⟩ (.int .i64 c)).heap.size := by rw [show (w.setCell ⟨q, 0, none⟩ (.int .i64 c)).heap.size = w.heap.size from size_setCells q [.int .i64 c] w 0]; exact Nat.le_refl _
  have h1 := @run_callFunc_extern Tryd.prog 44 _ xValueOf Tryd.func44 (by kernel_rfl) (by kernel_rfl) (by kernel_rfl) (by kernel_rfl)
  have h4 := @run_callFunc_extern Tryd.prog 49 _ xElem Tryd.func49 (by kernel_rfl) (by kernel_rfl) (by kernel_rfl) (by kernel_rfl)
  have h5 := @run_callFunc_extern Tryd.prog 50 _ Extern.ReflectliteValue.set Tryd.func50 (by kernel_rfl) (by kernel_rfl) (by kernel_rfl) (by kernel_rfl)
  have h9 := @run_callFunc_extern Tryd.prog 74 _ xAssign Tryd.func74 (by kernel_rfl) (by kernel_rfl) (by kernel_rfl) (by kernel_rfl)
  have h10 := @run_callFunc_extern Tryd.prog 48 _ Extern.ReflectliteType.typeOf Tryd.func48 (by kernel_rfl) (by kernel_rfl) (by kernel_rfl) (by kernel_rfl)
  have e2 := x_ValueOf_e; have e8 := x_Assign; have e9 := x_TypeOf
  have e11 := x_Elem
  have q2 : Blk ((w.alloc (.cells #[.pointer (some ⟨2, 71, none⟩), .pointer (some ⟨a, 0, none⟩), .int .u64 150] 80)).alloc (.cells #[.int .i64 c] 67)) q #[.int .i64 x] 67 := Blk.on hq (by rfl) (b_alloc (b_alloc (Below.refl _ _) _) _)
  have b2 : Blk ((w.alloc (.cells #[.pointer (some ⟨2, 71, none⟩), .pointer (some ⟨a, 0, none⟩), .int .u64 150] 80)).alloc (.cells #[.int .i64 c] 67)) (w.heap.size + 1) #[.int .i64 c] 67 := by
    have e : (w.alloc (.cells #[.pointer (some ⟨2, 71, none⟩), .pointer (some ⟨a, 0, none⟩), .int .u64 150] 80)).heap.size = w.heap.size + 1 := by simp
    rw [← e]
    exact Blk.new _ _ _
  have e12 := x_Set q (w.heap.size + 1) c ((w.alloc (.cells #[.pointer (some ⟨2, 71, none⟩), .pointer (some ⟨a, 0, none⟩), .int .u64 150] 80)).alloc (.cells #[.int .i64 c] 67)) ((b2.cell 0).trans rfl) (by rw [q2.cell 0]; rfl) (q2.frozen 0)
  clear q2 b2
  have m4 := m_Assign
  have hqs := hq.lt
  have c0 := hq.cell 0
  simp at c0
  have f0 := hq.frozen 0
  have has := ha.lt
  have d0 := ha.cell 0
  simp at d0
  clear hq ha
  go_enter Tryd.func47, Tryd.ntmps47
  go_wp2_with fail
  refine wp_loop_rounds 1 ?_
  rw [rounds_succ]
  go_wp2_with fail
  go_ret
  exact ⟨rfl, ((Below.refl _ _).alloc hz _).alloc (by simp) _⟩
set_option maxHeartbeats 4000000 in
theorem as_ok (c : Int) (q : Nat) (x : Int) (w : World) (hq : Blk w q #[.int .i64 x] 67) (hE : EtAt w) :
    Calls Tryd.prog 40 #[.iface 67 (.int .i64 c), .iface 71 (.pointer (some ⟨q, 0, none⟩))] w fun e w' => e = .returned (.bool true) ∧ ∃ w2, Below w.heap.size w w2 ∧ Below w.heap.size (w2.setCell ⟨q, 0, none⟩ (.int .i64 c)) w' := by
  have h1 := @run_callFunc_extern Tryd.prog 44 _ xValueOf Tryd.func44 (by kernel_rfl) (by kernel_rfl) (by kernel_rfl) (by kernel_rfl)
  have h2 := @run_callFunc_extern Tryd.prog 45 _ xType Tryd.func45 (by kernel_rfl) (by kernel_rfl) (by kernel_rfl) (by kernel_rfl)
  have h3 := @run_callFunc_extern Tryd.prog 46 _ xIsNil Tryd.func46 (by kernel_rfl) (by kernel_rfl) (by kernel_rfl) (by kernel_rfl)
  have h4 := @run_callFunc_extern Tryd.prog 49 _ xElem Tryd.func49 (by kernel_rfl) (by kernel_rfl) (by kernel_rfl) (by kernel_rfl)
  have h5 := @run_callFunc_extern Tryd.prog 50 _ Extern.ReflectliteValue.set Tryd.func50 (by kernel_rfl) (by kernel_rfl) (by kernel_rfl) (by kernel_rfl)
  have h6 := @run_callFunc_extern Tryd.prog 65 _ xKind Tryd.func65 (by kernel_rfl) (by kernel_rfl) (by kernel_rfl) (by kernel_rfl)
  have h7 := @run_callFunc_extern Tryd.prog 76 _ xTElem Tryd.func76 (by kernel_rfl) (by kernel_rfl) (by kernel_rfl) (by kernel_rfl)
  have h8 := @run_callFunc_extern Tryd.prog 77 _ xImpl Tryd.func77 (by kernel_rfl) (by kernel_rfl) (by kernel_rfl) (by kernel_rfl)
  have h9 := @run_callFunc_extern Tryd.prog 74 _ xAssign Tryd.func74 (by kernel_rfl) (by kernel_rfl) (by kernel_rfl) (by kernel_rfl)
  have h10 := @run_callFunc_extern Tryd.prog 48 _ Extern.ReflectliteType.typeOf Tryd.func48 (by kernel_rfl) (by kernel_rfl) (by kernel_rfl) (by kernel_rfl)
  have e1 := x_ValueOf_p; have e2 := x_ValueOf_e; have e3 := x_Type; have e4 := x_Kind_p; have e5 := x_Kind_e; have e6 := x_TElem; have e7 := x_Impl; have e8 := x_Assign; have e9 := x_TypeOf
  have e10 := x_IsNil; have e11 := x_Elem; have e12 := x_Set
  have m1 := m_Kind; have m2 := m_Elem; have m3 := m_Impl; have m4 := m_Assign
  have n1 := run_eql_iface_nil (P := Tryd.prog)
  have n2 := is_error; have n3 := is_any
  have hqs := hq.lt
  have c0 := hq.cell 0
  simp at c0
  have f0 := hq.frozen 0
  have cE := hE.cell
  have hg := hE.lt
  have hg0 : 0 < w.heap.size := Nat.lt_of_le_of_lt (Nat.zero_le _) hg
  have HQ := Lib.hid hq; have HE := Lib.hid hE
  clear hq hE
  go_enter Tryd.func40, Tryd.ntmps40
  go_wp2_with fail
  have k1 : Blk ((w.alloc (.cells #[.pointer (some ⟨q, 0, none⟩)] 71)).alloc (.cells #[.pointer (some ⟨2, 71, none⟩), .pointer (some ⟨w.heap.size, 0, none⟩), .int .u64 150] 80)) w.heap.size #[.pointer (some ⟨q, 0, none⟩)] 71 := (Below.heap_alloc _ _ _ (by simp)).trans (Blk.new _ _ _)
  refine (as_in c q w.heap.size x _ (Blk.on HQ.out (by rfl) (b_alloc (b_alloc (Below.refl _ _) _) _)) k1).mono ?_
  rintro e w1 ⟨rfl, b1⟩
  have B1 := Lib.hid b1
  clear b1 k1
  go_wp2
  go_ret
  exact ⟨rfl, _, b_alloc (b_alloc (Below.refl _ _) _) _, B1.out.mono (by simp; omega)⟩
/-- The code of an error: that of a refusal, or none. -/
theorem refusedCode_ok (c : Int) (w : World) (hE : EtAt w) : Calls Tryd.prog 20 #[.iface 67 (.int .i64 c)] w (RV (.int .i64 c) w) := by
  have k0 : Blk (w.alloc (.cells #[.int .i64 0] 67)) w.heap.size #[.int .i64 0] 67 := Blk.new _ _ _
  have hE2 : EtAt (w.alloc (.cells #[.int .i64 0] 67)) := hE.on (W := w) rfl (b_alloc (Below.refl _ _) _)
  have hs := k0.lt
  have K0 := Lib.hid k0; have HE := Lib.hid hE2
  clear k0 hE hE2
  go_enter Tryd.func20, Tryd.ntmps20
  go_wp2_with fail
  refine (as_ok c w.heap.size 0 _ K0.out HE.out).mono ?_
  rintro e w1 ⟨rfl, w2, b2, b1⟩
  have k2 := Blk.set (Blk.on K0.out (by rfl) b2) 0 (.int .i64 c)
  have k3 : Blk w1 w.heap.size _ _ := (b1.block w.heap.size hs).trans k2
  have c0 := k3.cell 0
  simp at c0
  have hB : Hid (Below w.heap.size w w1) := (b_setQ (b_then (b_alloc (Below.refl _ _) _) b2) (Nat.le_refl _) 0 (.int .i64 c)).trans (b1.mono (Nat.le_of_lt hs))
  clear k2 k3 b1 b2
  go_wp2
  go_ret
  exact ⟨rfl, hB.out⟩
theorem refusedCode_nil (w : World) : Calls Tryd.prog 20 #[.nilIface] w (RV (.int .i64 0) w) := by
  go_enter Tryd.func20, Tryd.ntmps20
  go_wp2_with fail
  refine (as_nil _ _).mono ?_
  rintro e w1 ⟨rfl, rfl⟩
  go_wp2
  go_ret
  exact ⟨rfl, b_alloc (Below.refl _ _) _⟩
end Go.Proofs.YtaodpopghacmaaaDoor
