/-
  Sentinel errors of the program: what the row's condition says of them, errors.Is of two of them, and the codes.
-/
import Derived.Test.YtjkgiknklkfipaaDoorOps
import Derived.LaidEql
import Derived.Stop.Asserts
import Derived.Stop.LaidErr
import Derived.RowKitTokens
import Derived.ChangeArms
namespace Go.Proofs.YtjkgiknklkfipaaDoor
open Go.RowKit Go.Extern.Stop Go.Stop Go.Extern
attribute [local go_sem ↓] Go.wp_at_zero Go.wp_at_succ
set_option linter.unusedVariables false
set_option linter.unusedSimpArgs false
/-- Where the program's five errors lie. -/
structure Sens where
  a0 : Addr
  a1 : Addr
  a2 : Addr
  a3 : Addr
  a4 : Addr
/-- One error: its variable holds a pointer to a block of its own. -/
def SenOne (w : World) (g : Nat) (a : Addr) : Prop := (∃ c t f, w.heap[g]? = some (.cells c t f) ∧ c[0]? = some (.iface 174 (.pointer (some a)))) ∧ ∃ c t, w.heap[a.block]? = some (.cells c t (0, 0))
theorem SenOne.cell {w : World} {g : Nat} {a : Addr} (h : SenOne w g a) : w.cell? ⟨g, 0, none⟩ = some (.iface 174 (.pointer (some a))) := by
  obtain ⟨⟨c, t, f, h1, h2⟩, _⟩ := h
  exact (cell_of_row _ _ 0 _ _ _ h1).trans h2
theorem SenOne.on {w W w' : World} {g : Nat} {a : Addr} (h : SenOne w g a) (hW : W.heap = w.heap) (b : Below W.heap.size W w') : SenOne w' g a := by
  obtain ⟨⟨c, t, f, h1, h2⟩, c', t', h3⟩ := h
  have l1 : g < w.heap.size := (Array.getElem?_eq_some_iff.1 h1).1
  have l3 : a.block < w.heap.size := (Array.getElem?_eq_some_iff.1 h3).1
  exact ⟨⟨c, t, f, (b.block g (by rw [hW]; exact l1)).trans (by rw [hW]; exact h1), h2⟩, c', t', (b.block a.block (by rw [hW]; exact l3)).trans (by rw [hW]; exact h3)⟩
def Sens.Apart (S : Sens) : Prop := S.a0 ≠ S.a1 ∧ S.a0 ≠ S.a2 ∧ S.a0 ≠ S.a3 ∧ S.a0 ≠ S.a4 ∧ S.a1 ≠ S.a2 ∧ S.a1 ≠ S.a3 ∧ S.a1 ≠ S.a4 ∧ S.a2 ≠ S.a3 ∧ S.a2 ≠ S.a4 ∧ S.a3 ≠ S.a4
def SenAt (w : World) (S : Sens) : Prop := (SenOne w 2 S.a0 ∧ SenOne w 3 S.a1 ∧ SenOne w 4 S.a2 ∧ SenOne w 5 S.a3 ∧ SenOne w 0 S.a4) ∧ S.Apart
theorem SenAt.on {w W w' : World} {S : Sens} (h : SenAt w S) (hW : W.heap = w.heap) (b : Below W.heap.size W w') : SenAt w' S := ⟨⟨h.1.1.on hW b, h.1.2.1.on hW b, h.1.2.2.1.on hW b, h.1.2.2.2.1.on hW b, h.1.2.2.2.2.on hW b⟩, h.2⟩
theorem isTypeOf (v : Value) (w : World) : (Extern.ReflectliteType.typeOf #[.iface 174 v]).run Tryd.prog w = .ok (.iface 162 (.agg #[.pointer (some ⟨7, 174, none⟩)])) w := by kernel_rfl
def cmpExt : Array Value → Sem Value := Extern.ReflectliteType.method fun t => do Go.Extern.Rtype.noPackHeld "Comparable" t; pure (.bool (← typeInfo t).comparable)
theorem isComparable (w : World) : (cmpExt #[.agg #[.pointer (some ⟨7, 174, none⟩)]]).run Tryd.prog w = .ok (.bool true) w := by kernel_rfl
theorem isMethodComparable (v : Value) (w : World) : (Go.method 314 162 v "Comparable").run Tryd.prog w = .ok (148, v) w := by kernel_rfl
theorem isComp : (Tryd.prog.info? 174).map (·.comparable) = some true := by kernel_rfl
theorem isSize : (Tryd.prog.info? 200).map (·.size) = some 1 := by kernel_rfl
theorem noIsE (v : Value) (xT : TypeId) (w : World) : (Instr.typeAssert (.iface 174 v) xT 164 true).run Tryd.prog w = .ok (.tuple #[.nilIface, .bool false]) w := run_typeAssert_lacksB Tryd.underlying164 (by kernel_rfl) (by kernel_rfl) v xT w
theorem noUnwrapE (v : Value) (xT : TypeId) (w : World) : (Instr.typeAssert (.iface 174 v) xT 167 true).run Tryd.prog w = .ok (.tuple #[.nilIface, .bool false]) w := run_typeAssert_lacksB Tryd.underlying167 (by kernel_rfl) (by kernel_rfl) v xT w
theorem noUnwrapsE (v : Value) (xT : TypeId) (w : World) : (Instr.typeAssert (.iface 174 v) xT 169 true).run Tryd.prog w = .ok (.tuple #[.nilIface, .bool false]) w := run_typeAssert_lacksB Tryd.underlying169 (by kernel_rfl) (by kernel_rfl) v xT w
theorem is_same (a : Addr) (w : World) :
    Calls Tryd.prog 82 #[.iface 174 (.pointer (some a)), .iface 174 (.pointer (some a))] w fun e w' => e = .returned (.bool true) ∧ w' = w := by
  obtain ⟨i, hi, hcmp⟩ := Option.map_eq_some_iff.1 isComp
  obtain ⟨j, hj, hjs⟩ := Option.map_eq_some_iff.1 isSize
  have h8 := @run_callFunc_extern Tryd.prog 101 _ Extern.ReflectliteType.typeOf Tryd.func101 (by kernel_rfl) (by kernel_rfl) (by kernel_rfl) (by kernel_rfl)
  have h32 := @run_callFunc_extern Tryd.prog 148 _ cmpExt Tryd.func148 (by kernel_rfl) (by kernel_rfl) (by kernel_rfl) (by kernel_rfl)
  have tT := isTypeOf
  have cT := isComparable
  have mR := isMethodComparable
  have heq := run_eql_iface_ptr_same (P := Tryd.prog) w a Tryd.underlying91 Tryd.underlying174 hi hcmp hj
  go_enter Tryd.func82, Tryd.ntmps82
  go_wp2
  refine wp_loop_rounds 1 ?_
  rw [rounds_succ]
  go_wp2
  go_ret
  exact ⟨rfl, rfl⟩
theorem is_nil (b : Addr) (w : World) :
    Calls Tryd.prog 82 #[.nilIface, .iface 174 (.pointer (some b))] w fun e w' => e = .returned (.bool false) ∧ w' = w := by
  have hn := run_eql_iface_nil_left (P := Tryd.prog) w 174 (.pointer (some b)) Tryd.underlying91
  go_enter Tryd.func82, Tryd.ntmps82
  go_wp2
  go_ret
  exact ⟨rfl, rfl⟩
theorem is_other (a b : Addr) (w : World) (hne : a ≠ b) (ha : ∃ c t, w.heap[a.block]? = some (.cells c t (0, 0))) (hb : ∃ c t, w.heap[b.block]? = some (.cells c t (0, 0))) :
    Calls Tryd.prog 82 #[.iface 174 (.pointer (some a)), .iface 174 (.pointer (some b))] w fun e w' => e = .returned (.bool false) ∧ w' = w := by
  obtain ⟨ca, ta, ha⟩ := ha
  obtain ⟨cb, tb, hb⟩ := hb
  obtain ⟨i, hi, hcmp⟩ := Option.map_eq_some_iff.1 isComp
  obtain ⟨j, hj, hjs⟩ := Option.map_eq_some_iff.1 isSize
  have h8 := @run_callFunc_extern Tryd.prog 101 _ Extern.ReflectliteType.typeOf Tryd.func101 (by kernel_rfl) (by kernel_rfl) (by kernel_rfl) (by kernel_rfl)
  have h32 := @run_callFunc_extern Tryd.prog 148 _ cmpExt Tryd.func148 (by kernel_rfl) (by kernel_rfl) (by kernel_rfl) (by kernel_rfl)
  have tT := isTypeOf
  have cT := isComparable
  have mR := isMethodComparable
  have nE := noIsE
  have uE := noUnwrapE
  have vE := noUnwrapsE
  have heq := run_eql_iface_ptr_other (P := Tryd.prog) w Tryd.underlying91 Tryd.underlying174 hi hcmp hj (by rw [hjs]; decide) hne ha hb
  go_enter Tryd.func82, Tryd.ntmps82
  go_wp2
  refine wp_loop_rounds 1 ?_
  rw [rounds_succ]
  go_wp2
  go_ret
  exact ⟨rfl, rfl⟩
set_option maxRecDepth 100000 in
theorem codeOf_0 (S : Sens) (w : World) (hS : SenAt w S) : Calls Tryd.prog 55 #[.iface 174 (.pointer (some S.a0))] w fun e w' => e = .returned (.int .i64 1) ∧ w' = w := by
  have c0 := (hS.1.1).cell
  have i0 := Lib.hid (is_same S.a0 w)
  clear hS
  go_enter Tryd.func55, Tryd.ntmps55
  go_wp2_with (first | (go_at_call 82; with_reducible refine (i0.out).mono ?_; rintro e w' ⟨rfl, rfl⟩))
  go_ret
  exact ⟨rfl, rfl⟩
set_option maxRecDepth 100000 in
theorem codeOf_1 (S : Sens) (w : World) (hS : SenAt w S) : Calls Tryd.prog 55 #[.iface 174 (.pointer (some S.a1))] w fun e w' => e = .returned (.int .i64 2) ∧ w' = w := by
  have c0 := (hS.1.1).cell
  have c1 := (hS.1.2.1).cell
  have i0 := Lib.hid (is_other S.a1 S.a0 w (Ne.symm hS.2.1) (hS.1.2.1).2 (hS.1.1).2)
  have i1 := Lib.hid (is_same S.a1 w)
  clear hS
  go_enter Tryd.func55, Tryd.ntmps55
  go_wp2_with (first | (go_at_call 82; with_reducible refine (i0.out).mono ?_; rintro e w' ⟨rfl, rfl⟩) | (go_at_call 82; with_reducible refine (i1.out).mono ?_; rintro e w' ⟨rfl, rfl⟩))
  go_ret
  exact ⟨rfl, rfl⟩
set_option maxRecDepth 100000 in
theorem codeOf_2 (S : Sens) (w : World) (hS : SenAt w S) : Calls Tryd.prog 55 #[.iface 174 (.pointer (some S.a2))] w fun e w' => e = .returned (.int .i64 3) ∧ w' = w := by
  have c0 := (hS.1.1).cell
  have c1 := (hS.1.2.1).cell
  have c2 := (hS.1.2.2.1).cell
  have i0 := Lib.hid (is_other S.a2 S.a0 w (Ne.symm hS.2.2.1) (hS.1.2.2.1).2 (hS.1.1).2)
  have i1 := Lib.hid (is_other S.a2 S.a1 w (Ne.symm hS.2.2.2.2.2.1) (hS.1.2.2.1).2 (hS.1.2.1).2)
  have i2 := Lib.hid (is_same S.a2 w)
  clear hS
  go_enter Tryd.func55, Tryd.ntmps55
  go_wp2_with (first | (go_at_call 82; with_reducible refine (i0.out).mono ?_; rintro e w' ⟨rfl, rfl⟩) | (go_at_call 82; with_reducible refine (i1.out).mono ?_; rintro e w' ⟨rfl, rfl⟩) | (go_at_call 82; with_reducible refine (i2.out).mono ?_; rintro e w' ⟨rfl, rfl⟩))
  go_ret
  exact ⟨rfl, rfl⟩
set_option maxRecDepth 100000 in
theorem codeOf_3 (S : Sens) (w : World) (hS : SenAt w S) : Calls Tryd.prog 55 #[.iface 174 (.pointer (some S.a3))] w fun e w' => e = .returned (.int .i64 5) ∧ w' = w := by
  have c0 := (hS.1.1).cell
  have c1 := (hS.1.2.1).cell
  have c2 := (hS.1.2.2.1).cell
  have c3 := (hS.1.2.2.2.1).cell
  have i0 := Lib.hid (is_other S.a3 S.a0 w (Ne.symm hS.2.2.2.1) (hS.1.2.2.2.1).2 (hS.1.1).2)
  have i1 := Lib.hid (is_other S.a3 S.a1 w (Ne.symm hS.2.2.2.2.2.2.1) (hS.1.2.2.2.1).2 (hS.1.2.1).2)
  have i2 := Lib.hid (is_other S.a3 S.a2 w (Ne.symm hS.2.2.2.2.2.2.2.2.1) (hS.1.2.2.2.1).2 (hS.1.2.2.1).2)
  have i3 := Lib.hid (is_same S.a3 w)
  clear hS
  go_enter Tryd.func55, Tryd.ntmps55
  go_wp2_with (first | (go_at_call 82; with_reducible refine (i0.out).mono ?_; rintro e w' ⟨rfl, rfl⟩) | (go_at_call 82; with_reducible refine (i1.out).mono ?_; rintro e w' ⟨rfl, rfl⟩) | (go_at_call 82; with_reducible refine (i2.out).mono ?_; rintro e w' ⟨rfl, rfl⟩) | (go_at_call 82; with_reducible refine (i3.out).mono ?_; rintro e w' ⟨rfl, rfl⟩))
  go_ret
  exact ⟨rfl, rfl⟩
set_option maxRecDepth 100000 in
theorem codeOf_4 (S : Sens) (w : World) (hS : SenAt w S) : Calls Tryd.prog 55 #[.iface 174 (.pointer (some S.a4))] w fun e w' => e = .returned (.int .i64 6) ∧ w' = w := by
  have c0 := (hS.1.1).cell
  have c1 := (hS.1.2.1).cell
  have c2 := (hS.1.2.2.1).cell
  have c3 := (hS.1.2.2.2.1).cell
  have c4 := (hS.1.2.2.2.2).cell
  have i0 := Lib.hid (is_other S.a4 S.a0 w (Ne.symm hS.2.2.2.2.1) (hS.1.2.2.2.2).2 (hS.1.1).2)
  have i1 := Lib.hid (is_other S.a4 S.a1 w (Ne.symm hS.2.2.2.2.2.2.2.1) (hS.1.2.2.2.2).2 (hS.1.2.1).2)
  have i2 := Lib.hid (is_other S.a4 S.a2 w (Ne.symm hS.2.2.2.2.2.2.2.2.2.1) (hS.1.2.2.2.2).2 (hS.1.2.2.1).2)
  have i3 := Lib.hid (is_other S.a4 S.a3 w (Ne.symm hS.2.2.2.2.2.2.2.2.2.2) (hS.1.2.2.2.2).2 (hS.1.2.2.2.1).2)
  have i4 := Lib.hid (is_same S.a4 w)
  clear hS
  go_enter Tryd.func55, Tryd.ntmps55
  go_wp2_with (first | (go_at_call 82; with_reducible refine (i0.out).mono ?_; rintro e w' ⟨rfl, rfl⟩) | (go_at_call 82; with_reducible refine (i1.out).mono ?_; rintro e w' ⟨rfl, rfl⟩) | (go_at_call 82; with_reducible refine (i2.out).mono ?_; rintro e w' ⟨rfl, rfl⟩) | (go_at_call 82; with_reducible refine (i3.out).mono ?_; rintro e w' ⟨rfl, rfl⟩) | (go_at_call 82; with_reducible refine (i4.out).mono ?_; rintro e w' ⟨rfl, rfl⟩))
  go_ret
  exact ⟨rfl, rfl⟩
set_option maxRecDepth 100000 in
theorem codeOf_nil (S : Sens) (w : World) (hS : SenAt w S) : Calls Tryd.prog 55 #[.nilIface] w fun e w' => e = .returned (.int .i64 0) ∧ w' = w := by
  have c0 := (hS.1.1).cell
  have c1 := (hS.1.2.1).cell
  have c2 := (hS.1.2.2.1).cell
  have c3 := (hS.1.2.2.2.1).cell
  have c4 := (hS.1.2.2.2.2).cell
  clear hS
  go_enter Tryd.func55, Tryd.ntmps55
  go_wp2_with (go_at_call 82; refine (is_nil _ _).mono ?_; rintro e w' ⟨rfl, rfl⟩)
  go_ret
  exact ⟨rfl, rfl⟩
/-- What the row's condition gives at five sentinels of one type: five pointers, all different, each to a block of its own. -/
theorem laid_five {P : Program} {n0 n1 n2 n3 n4 nm : String} {x0 x1 x2 x3 x4 : List UInt8} {W : World} {g0 g1 g2 g3 g4 : Nat} {ti tp te ts : TypeId} {ms : Array (String × TypeId)} {f : Field}
    (h : laidMet P [(n0, .iface nm (.ptr (.agg [.lit (.string x0)]))), (n1, .iface nm (.ptr (.agg [.lit (.string x1)]))), (n2, .iface nm (.ptr (.agg [.lit (.string x2)]))), (n3, .iface nm (.ptr (.agg [.lit (.string x3)]))), (n4, .iface nm (.ptr (.agg [.lit (.string x4)])))] W)
    (hg0 : P.globalNamed n0 = some g0) (ht0 : (P.globals[g0]?).map (·.type) = some ti)
    (hg1 : P.globalNamed n1 = some g1) (ht1 : (P.globals[g1]?).map (·.type) = some ti)
    (hg2 : P.globalNamed n2 = some g2) (ht2 : (P.globals[g2]?).map (·.type) = some ti)
    (hg3 : P.globalNamed n3 = some g3) (ht3 : (P.globals[g3]?).map (·.type) = some ti)
    (hg4 : P.globalNamed n4 = some g4) (ht4 : (P.globals[g4]?).map (·.type) = some ti)
    (hi : P.underlying ti = some (.interface ms)) (hrow : ∀ u, P.typeName? 3 u = some nm → u = tp)
    (hp : P.underlying tp = some (.pointer te)) (he : P.underlying te = some (.struct #[f])) (hft : f.type = ts) (hfo : f.offset = 0) (hs : P.underlying ts = some .string) (hc : P.cellsOf te = 1) (hcs : P.cellsOf ts = 1) :
    ∃ (a0 a1 a2 a3 a4 : Addr), W.var? P n0 = some #[.iface tp (.pointer (some a0))] ∧ W.var? P n1 = some #[.iface tp (.pointer (some a1))] ∧ W.var? P n2 = some #[.iface tp (.pointer (some a2))] ∧ W.var? P n3 = some #[.iface tp (.pointer (some a3))] ∧ W.var? P n4 = some #[.iface tp (.pointer (some a4))] ∧ a0 ≠ a1 ∧ a0 ≠ a2 ∧ a0 ≠ a3 ∧ a0 ≠ a4 ∧ a1 ≠ a2 ∧ a1 ≠ a3 ∧ a1 ≠ a4 ∧ a2 ≠ a3 ∧ a2 ≠ a4 ∧ a3 ≠ a4 ∧ (∃ c t, W.heap[a0.block]? = some (.cells c t (0, 0))) ∧ (∃ c t, W.heap[a1.block]? = some (.cells c t (0, 0))) ∧ (∃ c t, W.heap[a2.block]? = some (.cells c t (0, 0))) ∧ (∃ c t, W.heap[a3.block]? = some (.cells c t (0, 0))) ∧ (∃ c t, W.heap[a4.block]? = some (.cells c t (0, 0))) := by
  obtain ⟨ps, ⟨g0', t0', cs0, f0, p0, q0, hg0', ht0', hv0, hd0, ⟨g1', t1', cs1, f1, p1, q1, hg1', ht1', hv1, hd1, ⟨g2', t2', cs2, f2, p2, q2, hg2', ht2', hv2, hd2, ⟨g3', t3', cs3, f3, p3, q3, hg3', ht3', hv3, hd3, ⟨g4', t4', cs4, f4, p4, q4, hg4', ht4', hv4, hd4, _, e4⟩, e3⟩, e2⟩, e1⟩, e0⟩, hnd, hrows⟩ := h
  obtain rfl := Option.some.inj (hg0.symm.trans hg0')
  obtain rfl := Option.some.inj (ht0.symm.trans ht0')
  obtain rfl := Option.some.inj (hg1.symm.trans hg1')
  obtain rfl := Option.some.inj (ht1.symm.trans ht1')
  obtain rfl := Option.some.inj (hg2.symm.trans hg2')
  obtain rfl := Option.some.inj (ht2.symm.trans ht2')
  obtain rfl := Option.some.inj (hg3.symm.trans hg3')
  obtain rfl := Option.some.inj (ht3.symm.trans ht3')
  obtain rfl := Option.some.inj (hg4.symm.trans hg4')
  obtain rfl := Option.some.inj (ht4.symm.trans ht4')
  subst e4
  subst e3
  subst e2
  subst e1
  subst e0
  obtain ⟨l0⟩ := cs0
  obtain ⟨l1⟩ := cs1
  obtain ⟨l2⟩ := cs2
  obtain ⟨l3⟩ := cs3
  obtain ⟨l4⟩ := cs4
  have ok0 : ∀ u v, l0 = [.iface u v] → Value.okWide P W .any 0 u v := fun u v e => by
    subst e
    exact (hrows g0 0 (by simp [MemPlace.row])).2 u v (by simpa using World.var?_cell hg0' hv0 0)
  have ok1 : ∀ u v, l1 = [.iface u v] → Value.okWide P W .any 0 u v := fun u v e => by
    subst e
    exact (hrows g1 0 (by simp [MemPlace.row])).2 u v (by simpa using World.var?_cell hg1' hv1 0)
  have ok2 : ∀ u v, l2 = [.iface u v] → Value.okWide P W .any 0 u v := fun u v e => by
    subst e
    exact (hrows g2 0 (by simp [MemPlace.row])).2 u v (by simpa using World.var?_cell hg2' hv2 0)
  have ok3 : ∀ u v, l3 = [.iface u v] → Value.okWide P W .any 0 u v := fun u v e => by
    subst e
    exact (hrows g3 0 (by simp [MemPlace.row])).2 u v (by simpa using World.var?_cell hg3' hv3 0)
  have ok4 : ∀ u v, l4 = [.iface u v] → Value.okWide P W .any 0 u v := fun u v e => by
    subst e
    exact (hrows g4 0 (by simp [MemPlace.row])).2 u v (by simpa using World.var?_cell hg4' hv4 0)
  obtain ⟨a0, s0, rfl, hc0, hs0, hz0, rfl⟩ := errorString_of_trod hi hrow hp he hft hfo hs hc hcs hd0 ok0
  obtain ⟨a1, s1, rfl, hc1, hs1, hz1, rfl⟩ := errorString_of_trod hi hrow hp he hft hfo hs hc hcs hd1 ok1
  obtain ⟨a2, s2, rfl, hc2, hs2, hz2, rfl⟩ := errorString_of_trod hi hrow hp he hft hfo hs hc hcs hd2 ok2
  obtain ⟨a3, s3, rfl, hc3, hs3, hz3, rfl⟩ := errorString_of_trod hi hrow hp he hft hfo hs hc hcs hd3 ok3
  obtain ⟨a4, s4, rfl, hc4, hs4, hz4, rfl⟩ := errorString_of_trod hi hrow hp he hft hfo hs hc hcs hd4 ok4
  have hb0 := (hrows a0.block a0.off (by simp [MemPlace.row])).1
  have hb1 := (hrows a1.block a1.off (by simp [MemPlace.row])).1
  have hb2 := (hrows a2.block a2.off (by simp [MemPlace.row])).1
  have hb3 := (hrows a3.block a3.off (by simp [MemPlace.row])).1
  have hb4 := (hrows a4.block a4.off (by simp [MemPlace.row])).1
  refine ⟨a0, a1, a2, a3, a4, hv0, hv1, hv2, hv3, hv4, ?_, ?_, ?_, ?_, ?_, ?_, ?_, ?_, ?_, ?_, hb0, hb1, hb2, hb3, hb4⟩
  all_goals
    rintro rfl
    simp [MemPlace.row] at hnd
theorem sen_of {w : World} {n : String} {g : Nat} {a : Addr} (hg : Tryd.prog.globalNamed n = some g) (hv : w.var? Tryd.prog n = some #[.iface 174 (.pointer (some a))]) (hb : ∃ c t, w.heap[a.block]? = some (.cells c t (0, 0))) : SenOne w g a := by
  refine ⟨?_, hb⟩
  unfold World.var? at hv
  rw [hg] at hv
  simp only [Option.bind_some] at hv
  split at hv
  · rename_i cs t f h
    exact ⟨cs, t, f, h, by cases hv; rfl⟩
  · cases hv
theorem trodVars_len {H : Type} {enc : TypeId × Value → H} {P : Program} {w : World} {sp : Nat → Bool} : ∀ {ns : List String} {ds : List (DataW H)} {ps : List MemPlace}, DataW.TrodVars enc P w sp ns ds ps → ds.length = ns.length
  | [], [], _, _ => rfl
  | [], _ :: _, _, h => h.elim
  | _ :: _, [], _, h => h.elim
  | _ :: _, _ :: _, _, ⟨_, _, _, _, _, _, _, _, _, _, h, _⟩ => by simp [trodVars_len h]
theorem errRow : ∀ u, Tryd.prog.typeName? 3 u = some "*errors.errorString" → u = 174 := by
  intro u h
  exact typeName_ptr_named (nm := "errors.errorString") (by kernel_rfl) (by kernel_rfl) (by decide) u h
end Go.Proofs.YtjkgiknklkfipaaDoor
