/-
  Structs that come in by value: mills, states, governors.
-/
import Derived.Test.YtkkcihgnpephiabDoorOps
import Derived.ChangeArms
import Derived.Deep.Slices
import Derived.Lib.SmallJoins
namespace Go.Proofs.YtkkcihgnpephiabDoor
open Go.RowKit Go.ChangeShapes Go.WideShapes Go.Deep Go.Joins
attribute [local go_sem ↓] Go.wp_at_zero Go.wp_at_succ
set_option linter.unusedVariables false
set_option linter.unusedSimpArgs false
set_option maxRecDepth 100000
section
variable {H : Type} {enc : TypeId × Value → H} {w : World} {base : Nat} {spare : Nat → Bool} {held : Bool}
theorem trod_f32st {P : Program} {t : TypeId} {fuel : Nat} {cs : List Value} {x : DataW H × List MemPlace} (ht : P.underlying t = some (.float .f32)) (h : DataW.trod enc P w base spare held fuel t cs = some x) :
    ∃ b, cs = [.float .f32 b] ∧ (Lit.float .f32 b).wf = true := by
  cases fuel with
  | zero => simp [DataW.trod] at h
  | succ n =>
    unfold DataW.trod at h
    rw [ht] at h
    split at h <;> simp_all
theorem trod_intst {P : Program} {k : IntKind} {t : TypeId} {fuel : Nat} {cs : List Value} {x : DataW H × List MemPlace} (ht : P.underlying t = some (.int k)) (h : DataW.trod enc P w base spare held fuel t cs = some x) :
    ∃ b, cs = [.int k b] ∧ (Lit.int k b).wf = true := by
  cases fuel with
  | zero => simp [DataW.trod] at h
  | succ n =>
    unfold DataW.trod at h
    rw [ht] at h
    split at h <;> simp_all
theorem trod_boolst {P : Program} {t : TypeId} {fuel : Nat} {cs : List Value} {x : DataW H × List MemPlace} (ht : P.underlying t = some .bool) (h : DataW.trod enc P w base spare held fuel t cs = some x) :
    ∃ b, cs = [.bool b] := by
  cases fuel with
  | zero => simp [DataW.trod] at h
  | succ n =>
    unfold DataW.trod at h
    rw [ht] at h
    split at h <;> simp_all
theorem l1_of {α : Type} {l : List α} (h : l.length = 1) : ∃ a, l = [a] := by
  match l, h with
  | [a], _ => exact ⟨a, rfl⟩
theorem l2_of {α : Type} {l : List α} (h : l.length = 2) : ∃ a b, l = [a, b] := by
  match l, h with
  | [a, b], _ => exact ⟨a, b, rfl⟩
theorem l3_of {α : Type} {l : List α} (h : l.length = 3) : ∃ a b c, l = [a, b, c] := by
  match l, h with
  | [a, b, c], _ => exact ⟨a, b, c, rfl⟩
theorem l4_of {α : Type} {l : List α} (h : l.length = 4) : ∃ a b c d, l = [a, b, c, d] := by
  match l, h with
  | [a, b, c, d], _ => exact ⟨a, b, c, d, rfl⟩
theorem l5_of {α : Type} {l : List α} (h : l.length = 5) : ∃ a b c d e, l = [a, b, c, d, e] := by
  match l, h with
  | [a, b, c, d, e], _ => exact ⟨a, b, c, d, e, rfl⟩
theorem l6_of {α : Type} {l : List α} (h : l.length = 6) : ∃ a b c d e f, l = [a, b, c, d, e, f] := by
  match l, h with
  | [a, b, c, d, e, f], _ => exact ⟨a, b, c, d, e, f, rfl⟩
theorem l7_of {α : Type} {l : List α} (h : l.length = 7) : ∃ a b c d e f g, l = [a, b, c, d, e, f, g] := by
  match l, h with
  | [a, b, c, d, e, f, g], _ => exact ⟨a, b, c, d, e, f, g, rfl⟩
theorem l8_of {α : Type} {l : List α} (h : l.length = 8) : ∃ a b c d e f g h, l = [a, b, c, d, e, f, g, h] := by
  match l, h with
  | [a, b, c, d, e, f, g, h], _ => exact ⟨a, b, c, d, e, f, g, h, rfl⟩
theorem l9_of {α : Type} {l : List α} (h : l.length = 9) : ∃ a b c d e f g h i, l = [a, b, c, d, e, f, g, h, i] := by
  match l, h with
  | [a, b, c, d, e, f, g, h, i], _ => exact ⟨a, b, c, d, e, f, g, h, i, rfl⟩
theorem l10_of {α : Type} {l : List α} (h : l.length = 10) : ∃ a b c d e f g h i j, l = [a, b, c, d, e, f, g, h, i, j] := by
  match l, h with
  | [a, b, c, d, e, f, g, h, i, j], _ => exact ⟨a, b, c, d, e, f, g, h, i, j, rfl⟩
end
structure Ml where
  b : Int
  h : Nat
  r : Nat
section
variable {H : Type} {enc : TypeId × Value → H} {w : World} {base : Nat} {spare : Nat → Bool} {held : Bool}
theorem mill_cells {fuel : Nat} {cs : List Value} {x : DataW H × List MemPlace} (h : DataW.trod enc Tryd.prog w base spare held fuel 25 cs = some x) :
    ∃ X : Ml, cs = [.int .i16 X.b, .float .f32 X.h, .float .f32 X.r] ∧ (Lit.int .i16 X.b).wf = true ∧ (Lit.float .f32 X.h).wf = true ∧ (Lit.float .f32 X.r).wf = true := by
  obtain ⟨xs, n, _, _, hlen, hxl, hf⟩ := DataW.trod_struct Tryd.underlying25 h
  have hC : Tryd.prog.cellsOf 25 = 3 := by kernel_rfl
  rw [hC] at hlen
  obtain ⟨v0, v1, v2, rfl⟩ := l3_of hlen
  obtain ⟨y0, y1, y2, rfl⟩ := l3_of (show xs.length = 3 from hxl)
  have f0 : DataW.trod enc Tryd.prog w base spare held n 22 (([v0, v1, v2].drop 0).take (Tryd.prog.cellsOf 22)) = some y0 := hf 0 _ rfl
  rw [show Tryd.prog.cellsOf 22 = 1 by kernel_rfl] at f0
  have f1 : DataW.trod enc Tryd.prog w base spare held n 23 (([v0, v1, v2].drop 1).take (Tryd.prog.cellsOf 23)) = some y1 := hf 1 _ rfl
  rw [show Tryd.prog.cellsOf 23 = 1 by kernel_rfl] at f1
  have f2 : DataW.trod enc Tryd.prog w base spare held n 23 (([v0, v1, v2].drop 2).take (Tryd.prog.cellsOf 23)) = some y2 := hf 2 _ rfl
  rw [show Tryd.prog.cellsOf 23 = 1 by kernel_rfl] at f2
  obtain ⟨x0, e0, w0⟩ := trod_intst Tryd.underlying22 f0
  obtain rfl : v0 = .int .i16 x0 := List.head_eq_of_cons_eq e0
  obtain ⟨x1, e1, w1⟩ := trod_f32st Tryd.underlying23 f1
  obtain rfl : v1 = .float .f32 x1 := List.head_eq_of_cons_eq e1
  obtain ⟨x2, e2, w2⟩ := trod_f32st Tryd.underlying23 f2
  obtain rfl : v2 = .float .f32 x2 := List.head_eq_of_cons_eq e2
  exact ⟨⟨x0, x1, x2⟩, rfl, w0, w1, w2⟩
theorem mill_in {r : Reach} {b0 : Nat} {v : Value} {d : DataW H} {p : List MemPlace} (hv : Value.okWide Tryd.prog w r b0 25 v) (h : DataW.Trod enc Tryd.prog w base spare held 25 v d p) :
    ∃ X : Ml, v = .agg #[.int .i16 X.b, .float .f32 X.h, .float .f32 X.r] ∧ (Lit.int .i16 X.b).wf = true ∧ (Lit.float .f32 X.h).wf = true ∧ (Lit.float .f32 X.r).wf = true := by
  obtain ⟨cs, rfl, hsz⟩ := okWide_struct Tryd.underlying25 hv
  obtain ⟨fuel, hf⟩ := h
  obtain ⟨X, hB, hw⟩ := mill_cells hf
  refine ⟨X, ?_, hw⟩
  obtain ⟨l⟩ := cs
  have : l = _ := hB
  rw [this]
end
def AtMl (w : World) (q : Nat) (X : Ml) : Prop := w.heap[q]? = some (.cells #[.int .i16 X.b, .float .f32 X.h, .float .f32 X.r] 27 (0, 0))
theorem AtMl.lt {w : World} {q : Nat} {X : Ml} (h : AtMl w q X) : q < w.heap.size := by
  rcases Nat.lt_or_ge q w.heap.size with hlt | hge
  · exact hlt
  · unfold AtMl at h; rw [Array.getElem?_eq_none hge] at h; cases h
theorem AtMl.on {w W w' : World} {q : Nat} {X : Ml} (h : AtMl w q X) (hW : W.heap = w.heap) (b : Below W.heap.size W w') : AtMl w' q X := (b.block q (by rw [hW]; exact h.lt)).trans (by rw [hW]; exact h)
theorem AtMl.under {w w' : World} {q B : Nat} {X : Ml} (h : AtMl w q X) (hq : q < B) (b : Below B w w') : AtMl w' q X := (b.block q hq).trans h
theorem AtMl.same {w W : World} {q : Nat} {X : Ml} (h : AtMl w q X) (hW : W.heap = w.heap) : AtMl W q X := by unfold AtMl; rw [hW]; exact h
theorem AtMl.push {w : World} {q : Nat} {X : Ml} (h : AtMl w q X) (o : Obj) : AtMl (w.alloc o) q X := h.on (W := w) rfl (b_alloc (Below.refl _ _) o)
theorem AtMl.new (w : World) (X : Ml) : AtMl (w.alloc (.cells #[.int .i16 X.b, .float .f32 X.h, .float .f32 X.r] 27)) w.heap.size X := heap_alloc_new w _
theorem AtMl.cells {w : World} {q : Nat} {X : Ml} (h : AtMl w q X) : w.cell? ⟨q, 0, none⟩ = some (.int .i16 X.b) ∧ w.cell? ⟨q, 1, none⟩ = some (.float .f32 X.h) ∧ w.cell? ⟨q, 2, none⟩ = some (.float .f32 X.r) :=
  ⟨cell_of_row _ _ 0 _ _ _ h, cell_of_row _ _ 1 _ _ _ h, cell_of_row _ _ 2 _ _ _ h⟩
def AtLMl (w : World) (q : Nat) (X : Ml) : Prop := w.heap[q]? = some (.cells #[.int .i16 X.b, .float .f32 X.h, .float .f32 X.r] 25 (0, 0))
theorem AtLMl.lt {w : World} {q : Nat} {X : Ml} (h : AtLMl w q X) : q < w.heap.size := by
  rcases Nat.lt_or_ge q w.heap.size with hlt | hge
  · exact hlt
  · unfold AtLMl at h; rw [Array.getElem?_eq_none hge] at h; cases h
theorem AtLMl.on {w W w' : World} {q : Nat} {X : Ml} (h : AtLMl w q X) (hW : W.heap = w.heap) (b : Below W.heap.size W w') : AtLMl w' q X := (b.block q (by rw [hW]; exact h.lt)).trans (by rw [hW]; exact h)
theorem AtLMl.under {w w' : World} {q B : Nat} {X : Ml} (h : AtLMl w q X) (hq : q < B) (b : Below B w w') : AtLMl w' q X := (b.block q hq).trans h
theorem AtLMl.same {w W : World} {q : Nat} {X : Ml} (h : AtLMl w q X) (hW : W.heap = w.heap) : AtLMl W q X := by unfold AtLMl; rw [hW]; exact h
theorem AtLMl.push {w : World} {q : Nat} {X : Ml} (h : AtLMl w q X) (o : Obj) : AtLMl (w.alloc o) q X := h.on (W := w) rfl (b_alloc (Below.refl _ _) o)
theorem AtLMl.new (w : World) (X : Ml) : AtLMl (w.alloc (.cells #[.int .i16 X.b, .float .f32 X.h, .float .f32 X.r] 25)) w.heap.size X := heap_alloc_new w _
theorem AtLMl.cells {w : World} {q : Nat} {X : Ml} (h : AtLMl w q X) : w.cell? ⟨q, 0, none⟩ = some (.int .i16 X.b) ∧ w.cell? ⟨q, 1, none⟩ = some (.float .f32 X.h) ∧ w.cell? ⟨q, 2, none⟩ = some (.float .f32 X.r) :=
  ⟨cell_of_row _ _ 0 _ _ _ h, cell_of_row _ _ 1 _ _ _ h, cell_of_row _ _ 2 _ _ _ h⟩
theorem toMl_any (X : Ml) (w : World) : Calls Tryd.prog 5 #[.agg #[.int .i16 X.b, .float .f32 X.h, .float .f32 X.r]] w (RV (.agg #[.int .i16 X.b, .float .f32 X.h, .float .f32 X.r]) w) := by
  go_enter Tryd.func5, Tryd.ntmps5
  go_wp2
  refine bodyPost_ret (v := .agg #[.int .i16 X.b, .float .f32 X.h, .float .f32 X.r]) (by simp [results, Tryd.results5, go_sem]) rfl ⟨rfl, ?_⟩
  (repeat (first | exact Below.refl _ _ | refine b_drewN ?_ _ | refine b_drew ?_ | refine b_alloc ?_ _ | refine b_then ?_ (by assumption)))
end Go.Proofs.YtkkcihgnpephiabDoor