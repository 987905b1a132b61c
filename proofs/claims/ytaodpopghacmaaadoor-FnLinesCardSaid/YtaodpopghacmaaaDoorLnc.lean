/-
  The shaft of a line: the panic of what is no line, its recovery, and the refusals.
-/
import Derived.Test.YtaodpopghacmaaaDoorOne
import Derived.Test.YtaodpopghacmaaaDoorLna
import Derived.Test.YtaodpopghacmaaaDoorAsb
import Derived.Defers
import Derived.Recover
import Derived.WalkMore
import Derived.WalkLawsBesides
namespace Go.Proofs.YtaodpopghacmaaaDoor
open Go.RowKit Go.ChangeShapes Go.WideShapes Go.Deep
attribute [local go_sem ↓] Go.wp_at_zero Go.wp_at_succ
set_option linter.unusedVariables false
set_option linter.unusedSimpArgs false
set_option maxRecDepth 100000
theorem nl_asrt (w : World) : (Instr.typeAssert (.iface 76 (.agg #[])) 20 65 true).run Tryd.prog w = .ok (.tuple #[.iface 76 (.agg #[]), .bool true]) w := by kernel_rfl
theorem nl_asrt_n (w : World) : (Instr.typeAssert .nilIface 20 65 true).run Tryd.prog w = .ok (.tuple #[.nilIface, .bool false]) w := by kernel_rfl
theorem nl_meth (w : World) : (method 233 76 (.agg #[]) "loop.example/g01344/impl.code").run Tryd.prog w = .ok (69, .agg #[]) w := by kernel_rfl
theorem nl_neq (w : World) : (binOp .neq 20 .nilIface .nilIface).run Tryd.prog w = .ok (.bool false) w := by kernel_rfl
theorem nl_code (w : World) : Calls Tryd.prog 69 #[.agg #[]] w (RV (.int .i64 1) w) := by
  go_enter Tryd.func69, Tryd.ntmps69
  go_wp2
  go_ret
  refine ⟨rfl, ?_⟩
  (repeat (first | exact Below.refl _ _ | refine b_drewN ?_ _ | refine b_drew ?_ | refine b_alloc ?_ _ | refine b_then ?_ (by assumption)))
theorem shaft_idle (q6 q7 : Nat) (w : World) :
    CallsD Tryd.prog 38 #[.pointer (some ⟨q6, 0, none⟩), .pointer (some ⟨q7, 0, none⟩)] .returning w fun e u' w' => e = .returned (.tuple #[]) ∧ u' = .returning ∧ w' = w := by
  have a1 := nl_asrt_n
  have a2 := nl_neq
  refine callsD_of_wpS Tryd.func38 rfl fun c₀ cs hu => ?_
  apply wpS_seq
  apply wpS_region
  simp [wpOpsS, go_sem, recoverD, hu, Tryd.ntmps38, Exit.thenS]
  apply wpS_seq
  apply wpS_region
  simp [wpOpsS, go_sem, a1, Exit.thenS]
  apply wpS_seq
  apply wpS_region
  simp [wpOpsS, go_sem, Exit.thenS]
  refine wpS_cond (t := false) (by simp [Act.eval, Array.replicate]) ?_
  simp only [Bool.false_eq_true, if_false]
  apply wpS_seq
  apply wpS_region
  simp [wpOpsS, go_sem, a2, Exit.thenS]
  refine wpS_cond (t := false) (by simp [Act.eval, Array.replicate]) ?_
  simp only [Bool.false_eq_true, if_false]
  refine wpS_of_wp (wp_skip ?_)
  cases c₀
  simp_all [bodyPostS, results, Tryd.results38]
theorem shaft_panicking (q6 q7 : Nat) (x y : Value) (older : List PanicEntry) (w : World) (h6 : One w q6 x 41) (h7 : One w q7 y 43) (hne : q6 ≠ q7) :
    CallsD Tryd.prog 38 #[.pointer (some ⟨q6, 0, none⟩), .pointer (some ⟨q7, 0, none⟩)] (.panicking ({ v := .iface 76 (.agg #[]), recovered := false } :: older)) w fun e u' w' =>
      e = .returned (.tuple #[]) ∧ u' = .panicking ({ v := .iface 76 (.agg #[]), recovered := true } :: older) ∧ ∃ w2, Below w.heap.size w w2 ∧ w' = (w2.setCell ⟨q6, 0, none⟩ (.slice none 0 0)).setCell ⟨q7, 0, none⟩ (.iface 67 (.int .i64 1)) := by
  have a1 := nl_asrt
  have a2 := nl_meth
  refine callsD_of_wpS Tryd.func38 rfl fun c₀ cs hu => ?_
  apply wpS_seq
  apply wpS_region
  simp [wpOpsS, go_sem, recoverD, hu, Tryd.ntmps38, Exit.thenS]
  apply wpS_seq
  apply wpS_region
  simp [wpOpsS, go_sem, a1, Exit.thenS]
  apply wpS_seq
  apply wpS_region
  simp [wpOpsS, go_sem, Exit.thenS]
  refine wpS_cond (t := true) (by simp [Act.eval, Array.replicate]) ?_
  simp only [if_true]
  refine wpS_of_wp ?_
  generalize hQ : (fun (e : Exit) (a' : Act) (w' : World) => _) = Q
  go_wp2_with fail
  refine (nl_code _).mono ?_
  rintro e w2 ⟨rfl, b2⟩
  have k6 := One.on h6 (by rfl) b2
  have k7 := One.on h7 (by rfl) b2
  have c6 := k6.cell; have c7 := k7.cell; have f6 := k6.frozen; have f7 := k7.frozen; have l6 := k6.lt; have l7 := k7.lt
  have B2 := Lib.hid b2; have Hu := Lib.hid hu
  clear k6 k7 h6 h7 b2 hu
  go_wp2
  subst hQ
  exact ⟨rfl, .panicking ({ v := .iface 76 (.agg #[]), recovered := true } :: older), rfl, .tuple #[], by simp [results, Tryd.results38], rfl, rfl, w2, B2.out, rfl⟩
def codeSh (ds : List Dc) (r : Bool) : Int := if okLine ds then (if r then 0 else 2) else 1
def shaftV (K : Int) (A : Option Addr) (n c : Nat) : Value := if K = 0 then .tuple #[.slice A n c, .nilIface] else .tuple #[.slice none 0 0, .iface 67 (.int .i64 K)]
theorem shaftOf_ok (A : Option Addr) (n c : Nat) (ds : List Dc) (ht : okLine ds = true) (w : World) (hl : ds.length = n) (hn : n ≤ 1048576) (hT : Dc.L w w.heap.size A ds) :
    Calls Tryd.prog 39 #[.slice A n c] w (RV (.slice A n c) w) := by
  have hv := Lib.hid (validLine_any A n c ds w hl hn hT)
  rw [ht] at hv
  clear ht hT hl
  go_enter Tryd.func39, Tryd.ntmps39
  go_wp2_with (go_at_call 12; refine hv.out.mono ?_; rintro e w1 ⟨rfl, b1⟩)
  go_ret
  exact ⟨rfl, b1⟩
theorem shaftOf_no (A : Option Addr) (n c : Nat) (ds : List Dc) (ht : okLine ds = false) (w : World) (hl : ds.length = n) (hn : n ≤ 1048576) (hT : Dc.L w w.heap.size A ds) :
    Calls Tryd.prog 39 #[.slice A n c] w fun e w' => e = .panicked [{ v := .iface 76 (.agg #[]), recovered := false }] ∧ Below w.heap.size w w' := by
  have hv := Lib.hid (validLine_any A n c ds w hl hn hT)
  rw [ht] at hv
  clear ht hT hl
  go_enter Tryd.func39, Tryd.ntmps39
  go_wp2_with (go_at_call 12; refine hv.out.mono ?_; rintro e w1 ⟨rfl, b1⟩)
  exact ⟨rfl, rfl, b1⟩
set_option maxHeartbeats 4000000 in
theorem shaft_no (A : Option Addr) (n c : Nat) (ds : List Dc) (r : Bool) (ht : okLine ds = false) (w : World) (hl : ds.length = n) (hn : n ≤ 1048576) (hT : Dc.L w w.heap.size A ds) :
    Calls Tryd.prog 18 #[.slice A n c, .bool r] w (RV (.tuple #[.slice none 0 0, .iface 67 (.int .i64 1)]) w) := by
  have hmf : ∀ (fn : Fn) (first cap : Array Value) (w : World), (Instr.makeFunc fn first cap).run Tryd.prog w = .ok (.func fn first cap) w := fun _ _ _ _ => rfl
  have Ht := Lib.hid ht; have HT := Lib.hid hT; have Hl := Lib.hid hl
  clear ht hT hl
  go_enter_defers Tryd.func18, Tryd.ntmps18
  go_wp2_with fail
  have k6 : One ((w.alloc (.cells #[.slice none 0 0] 41)).alloc (.cells #[.nilIface] 43)) w.heap.size (.slice none 0 0) 41 := (One.new w _ _).push _
  have k7 : One ((w.alloc (.cells #[.slice none 0 0] 41)).alloc (.cells #[.nilIface] 43)) (w.heap.size + 1) .nilIface 43 := by
    have e : (w.alloc (.cells #[.slice none 0 0] 41)).heap.size = w.heap.size + 1 := by simp
    rw [← e]
    exact One.new _ _ _
  have bw : Below w.heap.size w ((w.alloc (.cells #[.slice none 0 0] 41)).alloc (.cells #[.nilIface] 43)) := b_alloc (b_alloc (Below.refl _ _) _) _
  have HW : Hid (Dc.L ((w.alloc (.cells #[.slice none 0 0] 41)).alloc (.cells #[.nilIface] 43)) ((w.alloc (.cells #[.slice none 0 0] 41)).alloc (.cells #[.nilIface] 43)).heap.size A ds) := HT.out.keep bw
  have K6 := Lib.hid k6; have K7 := Lib.hid k7; have Bw := Lib.hid bw
  clear k6 k7 bw
  generalize ((w.alloc (.cells #[.slice none 0 0] 41)).alloc (.cells #[.nilIface] 43)) = W at *
  refine (shaftOf_no A n c ds Ht.out W Hl.out hn HW.out).mono ?_
  rintro e w1 ⟨rfl, b1⟩
  refine leaves_cons (f := 38) (args := #[.pointer (some ⟨w.heap.size, 0, none⟩), .pointer (some ⟨w.heap.size + 1, 0, none⟩)]) (by simp) (by simp [go_sem]) ?_
  refine (shaft_panicking w.heap.size (w.heap.size + 1) (.slice none 0 0) .nilIface [] _ (One.on K6.out (by rfl) b1) (One.on K7.out (by rfl) b1) (by omega)).mono ?_
  rintro e u' w'' ⟨rfl, rfl, w2, b2, rfl⟩
  have B1 : Below w.heap.size w w1 := b_then Bw.out b1
  have m6 := ((One.on (One.on K6.out (by rfl) b1) (by rfl) b2).set (.slice none 0 0)).setO (q' := w.heap.size + 1) (by omega) (.iface 67 (.int .i64 1))
  have m7 := ((One.on (One.on K7.out (by rfl) b1) (by rfl) b2).setO (q' := w.heap.size) (by omega) (.slice none 0 0)).set (.iface 67 (.int .i64 1))
  have c6 := m6.cell; have c7 := m7.cell
  have hb : Below w.heap.size w ((w2.setCell ⟨w.heap.size, 0, none⟩ (.slice none 0 0)).setCell ⟨w.heap.size + 1, 0, none⟩ (.iface 67 (.int .i64 1))) := (Below.setCell (p := ⟨w.heap.size, 0, none⟩) (b_then B1 b2) (Nat.le_refl _) _).setCell (p := ⟨w.heap.size + 1, 0, none⟩) (by show w.heap.size ≤ w.heap.size + 1; omega) _
  generalize ((w2.setCell ⟨w.heap.size, 0, none⟩ (.slice none 0 0)).setCell ⟨w.heap.size + 1, 0, none⟩ (.iface 67 (.int .i64 1))) = Wx at *
  simp [Leaves, settle, results, Tryd.results18, go_sem, c6, c7]
  exact ⟨rfl, hb⟩
set_option maxHeartbeats 4000000 in
theorem shaft_ok (A : Option Addr) (n c : Nat) (ds : List Dc) (ht : okLine ds = true) (w : World) (hl : ds.length = n) (hn : n ≤ 1048576) (hT : Dc.L w w.heap.size A ds) :
    Calls Tryd.prog 18 #[.slice A n c, .bool true] w (RV (.tuple #[.slice A n c, .nilIface]) w) := by
  have hmf : ∀ (fn : Fn) (first cap : Array Value) (w : World), (Instr.makeFunc fn first cap).run Tryd.prog w = .ok (.func fn first cap) w := fun _ _ _ _ => rfl
  have Ht := Lib.hid ht; have HT := Lib.hid hT; have Hl := Lib.hid hl
  clear ht hT hl
  go_enter_defers Tryd.func18, Tryd.ntmps18
  go_wp2_with fail
  have k6 : One ((w.alloc (.cells #[.slice none 0 0] 41)).alloc (.cells #[.nilIface] 43)) w.heap.size (.slice none 0 0) 41 := (One.new w _ _).push _
  have k7 : One ((w.alloc (.cells #[.slice none 0 0] 41)).alloc (.cells #[.nilIface] 43)) (w.heap.size + 1) .nilIface 43 := by
    have e : (w.alloc (.cells #[.slice none 0 0] 41)).heap.size = w.heap.size + 1 := by simp
    rw [← e]
    exact One.new _ _ _
  have bw : Below w.heap.size w ((w.alloc (.cells #[.slice none 0 0] 41)).alloc (.cells #[.nilIface] 43)) := b_alloc (b_alloc (Below.refl _ _) _) _
  have HW : Hid (Dc.L ((w.alloc (.cells #[.slice none 0 0] 41)).alloc (.cells #[.nilIface] 43)) ((w.alloc (.cells #[.slice none 0 0] 41)).alloc (.cells #[.nilIface] 43)).heap.size A ds) := HT.out.keep bw
  have K6 := Lib.hid k6; have K7 := Lib.hid k7; have Bw := Lib.hid bw
  clear k6 k7 bw
  generalize ((w.alloc (.cells #[.slice none 0 0] 41)).alloc (.cells #[.nilIface] 43)) = W at *
  refine (shaftOf_ok A n c ds Ht.out W Hl.out hn HW.out).mono ?_
  rintro e w1 ⟨rfl, b1⟩
  have k6 := One.on K6.out (by rfl) b1
  have k7 := One.on K7.out (by rfl) b1
  have c6 := k6.cell; have c7 := k7.cell; have f6 := k6.frozen; have f7 := k7.frozen; have l6 := k6.lt; have l7 := k7.lt
  have M6 := Lib.hid k6; have M7 := Lib.hid k7
  have B1 : Hid (Below w.heap.size w w1) := b_then Bw.out b1
  clear k6 k7 b1
  go_wp2
  refine leaves_cons (f := 38) (args := #[.pointer (some ⟨w.heap.size, 0, none⟩), .pointer (some ⟨w.heap.size + 1, 0, none⟩)]) (by simp) (by simp [go_sem]) ?_
  refine (shaft_idle w.heap.size (w.heap.size + 1) _).mono ?_
  rintro e u' w'' ⟨rfl, rfl, rfl⟩
  have m6 := ((M6.out.set (.slice A n c)).set (.slice A n c)).setO (q' := w.heap.size + 1) (by omega) .nilIface
  have m7 := ((M7.out.setO (q' := w.heap.size) (by omega) (.slice A n c)).setO (q' := w.heap.size) (by omega) (.slice A n c)).set .nilIface
  clear c6 c7 f6 f7
  have c6 := m6.cell; have c7 := m7.cell
  have hb : Below w.heap.size w (((w1.setCell ⟨w.heap.size, 0, none⟩ (.slice A n c)).setCell ⟨w.heap.size, 0, none⟩ (.slice A n c)).setCell ⟨w.heap.size + 1, 0, none⟩ .nilIface) := ((Below.setCell (p := ⟨w.heap.size, 0, none⟩) B1.out (Nat.le_refl _) _).setCell (p := ⟨w.heap.size, 0, none⟩) (Nat.le_refl _) _).setCell (p := ⟨w.heap.size + 1, 0, none⟩) (by show w.heap.size ≤ w.heap.size + 1; omega) _
  generalize (((w1.setCell ⟨w.heap.size, 0, none⟩ (.slice A n c)).setCell ⟨w.heap.size, 0, none⟩ (.slice A n c)).setCell ⟨w.heap.size + 1, 0, none⟩ .nilIface) = Wx at *
  simp [Leaves, settle, results, Tryd.results18, go_sem, c6, c7]
  exact ⟨rfl, hb⟩
set_option maxHeartbeats 4000000 in
theorem shaft_far (A : Option Addr) (n c : Nat) (ds : List Dc) (ht : okLine ds = true) (w : World) (hl : ds.length = n) (hn : n ≤ 1048576) (hT : Dc.L w w.heap.size A ds) :
    Calls Tryd.prog 18 #[.slice A n c, .bool false] w (RV (.tuple #[.slice none 0 0, .iface 67 (.int .i64 2)]) w) := by
  have hmf : ∀ (fn : Fn) (first cap : Array Value) (w : World), (Instr.makeFunc fn first cap).run Tryd.prog w = .ok (.func fn first cap) w := fun _ _ _ _ => rfl
  have Ht := Lib.hid ht; have HT := Lib.hid hT; have Hl := Lib.hid hl
  clear ht hT hl
  go_enter_defers Tryd.func18, Tryd.ntmps18
  go_wp2_with fail
  have k6 : One ((w.alloc (.cells #[.slice none 0 0] 41)).alloc (.cells #[.nilIface] 43)) w.heap.size (.slice none 0 0) 41 := (One.new w _ _).push _
  have k7 : One ((w.alloc (.cells #[.slice none 0 0] 41)).alloc (.cells #[.nilIface] 43)) (w.heap.size + 1) .nilIface 43 := by
    have e : (w.alloc (.cells #[.slice none 0 0] 41)).heap.size = w.heap.size + 1 := by simp
    rw [← e]
    exact One.new _ _ _
  have bw : Below w.heap.size w ((w.alloc (.cells #[.slice none 0 0] 41)).alloc (.cells #[.nilIface] 43)) := b_alloc (b_alloc (Below.refl _ _) _) _
  have HW : Hid (Dc.L ((w.alloc (.cells #[.slice none 0 0] 41)).alloc (.cells #[.nilIface] 43)) ((w.alloc (.cells #[.slice none 0 0] 41)).alloc (.cells #[.nilIface] 43)).heap.size A ds) := HT.out.keep bw
  have K6 := Lib.hid k6; have K7 := Lib.hid k7; have Bw := Lib.hid bw
  clear k6 k7 bw
  generalize ((w.alloc (.cells #[.slice none 0 0] 41)).alloc (.cells #[.nilIface] 43)) = W at *
  refine (shaftOf_ok A n c ds Ht.out W Hl.out hn HW.out).mono ?_
  rintro e w1 ⟨rfl, b1⟩
  have k6 := One.on K6.out (by rfl) b1
  have k7 := One.on K7.out (by rfl) b1
  have c6 := k6.cell; have c7 := k7.cell; have f6 := k6.frozen; have f7 := k7.frozen; have l6 := k6.lt; have l7 := k7.lt
  have M6 := Lib.hid k6; have M7 := Lib.hid k7
  have B1 : Hid (Below w.heap.size w w1) := b_then Bw.out b1
  clear k6 k7 b1
  go_wp2
  refine leaves_cons (f := 38) (args := #[.pointer (some ⟨w.heap.size, 0, none⟩), .pointer (some ⟨w.heap.size + 1, 0, none⟩)]) (by simp) (by simp [go_sem]) ?_
  refine (shaft_idle w.heap.size (w.heap.size + 1) _).mono ?_
  rintro e u' w'' ⟨rfl, rfl, rfl⟩
  have m6 := ((M6.out.set (.slice A n c)).set (.slice none 0 0)).setO (q' := w.heap.size + 1) (by omega) (.iface 67 (.int .i64 2))
  have m7 := ((M7.out.setO (q' := w.heap.size) (by omega) (.slice A n c)).setO (q' := w.heap.size) (by omega) (.slice none 0 0)).set (.iface 67 (.int .i64 2))
  clear c6 c7 f6 f7
  have c6 := m6.cell; have c7 := m7.cell
  have hb : Below w.heap.size w (((w1.setCell ⟨w.heap.size, 0, none⟩ (.slice A n c)).setCell ⟨w.heap.size, 0, none⟩ (.slice none 0 0)).setCell ⟨w.heap.size + 1, 0, none⟩ (.iface 67 (.int .i64 2))) := ((Below.setCell (p := ⟨w.heap.size, 0, none⟩) B1.out (Nat.le_refl _) _).setCell (p := ⟨w.heap.size, 0, none⟩) (Nat.le_refl _) _).setCell (p := ⟨w.heap.size + 1, 0, none⟩) (by show w.heap.size ≤ w.heap.size + 1; omega) _
  generalize (((w1.setCell ⟨w.heap.size, 0, none⟩ (.slice A n c)).setCell ⟨w.heap.size, 0, none⟩ (.slice none 0 0)).setCell ⟨w.heap.size + 1, 0, none⟩ (.iface 67 (.int .i64 2))) = Wx at *
  simp [Leaves, settle, results, Tryd.results18, go_sem, c6, c7]
  exact ⟨rfl, hb⟩
end Go.Proofs.YtaodpopghacmaaaDoor
