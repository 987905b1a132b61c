/-
  errors.As where the target is a refusal of the program's own: what reflectlite's entries give, and the call at such an error.
-/
import Derived.Test.YtaodpopghacmaaaDoorBase
import Derived.Test.YtaodpopghacmaaaDoorBlk
import Derived.LaidEql
import Derived.Stop.Asserts
import Derived.Stop.LaidErr
import Derived.Stop.IfaceNil
import Derived.RowKitTokens
import Derived.ChangeArms
namespace Go.Proofs.YtaodpopghacmaaaDoor
open Go.RowKit Go.Extern.Stop Go.Stop Go.Extern
attribute [local go_sem ↓] Go.wp_at_zero Go.wp_at_succ
set_option linter.unusedVariables false
set_option linter.unusedSimpArgs false
set_option maxRecDepth 100000
def hd (t : Nat) : Value := .pointer (some ⟨2, t, none⟩)
/-- The variable errors.errorType holds the handle of 'error'. -/
def EtAt (w : World) : Prop := ∃ c t f, w.heap[0]? = some (.cells c t f) ∧ c[0]? = some (.iface 91 (.agg #[.pointer (some ⟨2, 43, none⟩)]))
theorem EtAt.cell {w : World} (h : EtAt w) : w.cell? ⟨0, 0, none⟩ = some (.iface 91 (.agg #[.pointer (some ⟨2, 43, none⟩)])) := by
  obtain ⟨c, t, f, h1, h2⟩ := h
  exact (cell_of_row _ _ 0 _ _ _ h1).trans h2
theorem EtAt.on {w W w' : World} (h : EtAt w) (hW : W.heap = w.heap) (b : Below W.heap.size W w') : EtAt w' := by
  obtain ⟨c, t, f, h1, h2⟩ := h
  have l1 : 0 < w.heap.size := (Array.getElem?_eq_some_iff.1 h1).1
  exact ⟨c, t, f, (b.block _ (by rw [hW]; exact l1)).trans (by rw [hW]; exact h1), h2⟩
theorem EtAt.lt {w : World} (h : EtAt w) : 0 < w.heap.size := by
  obtain ⟨c, t, f, h1, h2⟩ := h
  exact (Array.getElem?_eq_some_iff.1 h1).1
/-! What the entries give, closed. -/
def xValueOf : Array Value → Sem Value := fun args => Extern.ReflectliteValue.unpack (args.getD 0 (.tuple #[]))
def xType : Array Value → Sem Value := Extern.ReflectliteValue.methodAny (Extern.ReflectliteValue.valueError "reflectlite.Value.Type" 0) fun t _ _ _ => Extern.ReflectliteType.toType t
def xIsNil : Array Value → Sem Value := Extern.ReflectliteValue.method (Extern.ReflectliteValue.valueError "reflectlite.Value.IsNil" 0) Extern.ReflectliteValue.isNil
def xElem : Array Value → Sem Value := Extern.ReflectliteValue.method (Extern.ReflectliteValue.valueError "reflectlite.Value.Elem" 0) Extern.ReflectliteValue.elem
def xKind : Array Value → Sem Value := Extern.ReflectliteType.abiMethod fun t => do pure (.int .u8 (← Extern.Rtype.kind t))
def xTElem : Array Value → Sem Value := Extern.ReflectliteType.method Extern.ReflectliteType.elem
def xImpl : Array Value → Sem Value := Extern.ReflectliteType.relation "Implements" Extern.ReflectliteType.implements_
def xAssign : Array Value → Sem Value := Extern.ReflectliteType.relation "AssignableTo" Extern.ReflectliteType.assignableTo
theorem x_ValueOf_p (q : Nat) (w : World) : (xValueOf #[.iface 71 (.pointer (some ⟨q, 0, none⟩))]).run Tryd.prog w = .ok (.agg #[.pointer (some ⟨2, 71, none⟩), .pointer (some ⟨w.heap.size, 0, none⟩), .int .u64 150]) (w.alloc (.cells #[.pointer (some ⟨q, 0, none⟩)] 71)) := by kernel_rfl
theorem x_ValueOf_e (c : Int) (w : World) : (xValueOf #[.iface 67 (.int .i64 c)]).run Tryd.prog w = .ok (.agg #[.pointer (some ⟨2, 67, none⟩), .pointer (some ⟨w.heap.size, 0, none⟩), .int .u64 134]) (w.alloc (.cells #[.int .i64 c] 67)) := by kernel_rfl
theorem x_Type (a : Nat) (w : World) : (xType #[.agg #[.pointer (some ⟨2, 71, none⟩), .pointer (some ⟨a, 0, none⟩), .int .u64 150]]).run Tryd.prog w = .ok (.iface 91 (.agg #[.pointer (some ⟨2, 71, none⟩)])) w := by kernel_rfl
theorem x_Kind_p (w : World) : (xKind #[.pointer (some ⟨2, 71, none⟩)]).run Tryd.prog w = .ok (.int .u8 22) w := by kernel_rfl
theorem x_Kind_e (w : World) : (xKind #[.pointer (some ⟨2, 67, none⟩)]).run Tryd.prog w = .ok (.int .u8 6) w := by kernel_rfl
theorem x_TElem (w : World) : (xTElem #[.agg #[.pointer (some ⟨2, 71, none⟩)]]).run Tryd.prog w = .ok (.iface 91 (.agg #[.pointer (some ⟨2, 67, none⟩)])) w := by kernel_rfl
theorem x_Impl (w : World) : (xImpl #[.agg #[.pointer (some ⟨2, 67, none⟩)], .iface 91 (.agg #[.pointer (some ⟨2, 43, none⟩)])]).run Tryd.prog w = .ok (.bool true) w := by kernel_rfl
theorem x_Assign (w : World) : (xAssign #[.agg #[.pointer (some ⟨2, 67, none⟩)], .iface 91 (.agg #[.pointer (some ⟨2, 67, none⟩)])]).run Tryd.prog w = .ok (.bool true) w := by kernel_rfl
theorem x_TypeOf (c : Int) (w : World) : (Extern.ReflectliteType.typeOf #[.iface 67 (.int .i64 c)]).run Tryd.prog w = .ok (.iface 91 (.agg #[.pointer (some ⟨2, 67, none⟩)])) w := by kernel_rfl
theorem m_Kind (t : Nat) (w : World) : (Go.method 233 91 (.agg #[.pointer (some ⟨2, t, none⟩)]) "Kind").run Tryd.prog w = .ok (65, .pointer (some ⟨2, t, none⟩)) w := by kernel_rfl
theorem m_Elem (v : Value) (w : World) : (Go.method 233 91 v "Elem").run Tryd.prog w = .ok (76, v) w := by kernel_rfl
theorem m_Impl (v : Value) (w : World) : (Go.method 233 91 v "Implements").run Tryd.prog w = .ok (77, v) w := by kernel_rfl
theorem m_Assign (v : Value) (w : World) : (Go.method 233 91 v "AssignableTo").run Tryd.prog w = .ok (74, v) w := by kernel_rfl
theorem agg_PE (w : World) : (isAgg 71).run Tryd.prog w = .ok false w := by kernel_rfl
theorem agg_RE (w : World) : (isAgg 67).run Tryd.prog w = .ok false w := by kernel_rfl
theorem parts_p (a : Nat) (w : World) : (Extern.ReflectliteValue.parts (.agg #[.pointer (some ⟨2, 71, none⟩), .pointer (some ⟨a, 0, none⟩), .int .u64 150])).run Tryd.prog w = .ok (some (71, ⟨a, 0, none⟩, 150)) w := by kernel_rfl
theorem parts_e (a : Nat) (w : World) : (Extern.ReflectliteValue.parts (.agg #[.pointer (some ⟨2, 67, none⟩), .pointer (some ⟨a, 0, none⟩), .int .u64 134])).run Tryd.prog w = .ok (some (67, ⟨a, 0, none⟩, 134)) w := by kernel_rfl
theorem parts_t (a : Nat) (w : World) : (Extern.ReflectliteValue.parts (.agg #[.pointer (some ⟨2, 67, none⟩), .pointer (some ⟨a, 0, none⟩), .int .u64 390])).run Tryd.prog w = .ok (some (67, ⟨a, 0, none⟩, 390)) w := by kernel_rfl
theorem elem_PE (w : World) : (Extern.Rtype.elem? 71).run Tryd.prog w = .ok (some 67) w := by kernel_rfl
theorem mk_t (a : Nat) (w : World) : (Extern.ReflectliteValue.mk 67 ⟨a, 0, none⟩ 256).run Tryd.prog w = .ok (.agg #[.pointer (some ⟨2, 67, none⟩), .pointer (some ⟨a, 0, none⟩), .int .u64 390]) w := by kernel_rfl
theorem dir_RE (w : World) : (Extern.Rtype.directlyAssignable 67 67).run Tryd.prog w = .ok true w := by kernel_rfl
theorem size_RE (w : World) : (sizeOf 67).run Tryd.prog w = .ok 1 w := by kernel_rfl
theorem x_IsNil (a q : Nat) (w : World) (h : w.cell? ⟨a, 0, none⟩ = some (.pointer (some ⟨q, 0, none⟩))) : (xIsNil #[.agg #[.pointer (some ⟨2, 71, none⟩), .pointer (some ⟨a, 0, none⟩), .int .u64 150]]).run Tryd.prog w = .ok (.bool false) w := by
  change Sem.run _ (bind (Extern.ReflectliteValue.parts (.agg #[.pointer (some ⟨2, 71, none⟩), .pointer (some ⟨a, 0, none⟩), .int .u64 150])) _) _ = _
  rw [Sem.run_bind, parts_p]
  simp [Extern.ReflectliteValue.isNil, loadVar, agg_PE, go_sem, h]
theorem x_Elem (a q : Nat) (w : World) (h : w.cell? ⟨a, 0, none⟩ = some (.pointer (some ⟨q, 0, none⟩))) : (xElem #[.agg #[.pointer (some ⟨2, 71, none⟩), .pointer (some ⟨a, 0, none⟩), .int .u64 150]]).run Tryd.prog w = .ok (.agg #[.pointer (some ⟨2, 67, none⟩), .pointer (some ⟨q, 0, none⟩), .int .u64 390]) w := by
  change Sem.run _ (bind (Extern.ReflectliteValue.parts (.agg #[.pointer (some ⟨2, 71, none⟩), .pointer (some ⟨a, 0, none⟩), .int .u64 150])) _) _ = _
  rw [Sem.run_bind, parts_p]
  simp [Extern.ReflectliteValue.elem, loadVar, agg_PE, go_sem, h, elem_PE, mk_t, Extern.ReflectliteValue.flagAddr]
theorem x_Set (q b : Nat) (c : Int) (w : World) (h : w.cell? ⟨b, 0, none⟩ = some (.int .i64 c)) (hq : (w.cell? ⟨q, 0, none⟩).isSome = true) (hf : w.frozen? ⟨q, 0, none⟩ = false) : (Extern.ReflectliteValue.set #[.agg #[.pointer (some ⟨2, 67, none⟩), .pointer (some ⟨q, 0, none⟩), .int .u64 390], .agg #[.pointer (some ⟨2, 67, none⟩), .pointer (some ⟨b, 0, none⟩), .int .u64 134]]).run Tryd.prog w = .ok (.tuple #[]) (w.setCell ⟨q, 0, none⟩ (.int .i64 c)) := by
  obtain ⟨v, hv⟩ := Option.isSome_iff_exists.1 hq
  change Sem.run _ (bind (Extern.ReflectliteValue.parts (.agg #[.pointer (some ⟨2, 67, none⟩), .pointer (some ⟨q, 0, none⟩), .int .u64 390])) _) _ = _
  rw [Sem.run_bind, parts_t]
  simp only [Result.andThen_ok]
  change Sem.run _ (bind (Extern.ReflectliteValue.parts (.agg #[.pointer (some ⟨2, 67, none⟩), .pointer (some ⟨b, 0, none⟩), .int .u64 134])) _) _ = _
  rw [Sem.run_bind, parts_e]
  simp [loadVar, agg_RE, go_sem, h, dir_RE, storeVar, size_RE, storeCells, Extern.ReflectliteValue.flagAddr, Value.cells, hv, hf]
end Go.Proofs.YtaodpopghacmaaaDoor
