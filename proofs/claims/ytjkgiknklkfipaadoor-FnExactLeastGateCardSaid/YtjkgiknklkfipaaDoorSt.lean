/-
  Structs that come in by value: mills, states, governors.
-/
import Derived.Test.YtjkgiknklkfipaaDoorOps
import Derived.ChangeArms
import Derived.Deep.Slices
import Derived.Lib.SmallJoins
namespace Go.Proofs.YtjkgiknklkfipaaDoor
open Go.RowKit Go.ChangeShapes Go.WideShapes Go.Deep Go.Joins
attribute [local go_sem ↓] Go.wp_at_zero Go.wp_at_succ
set_option linter.unusedVariables false
set_option linter.unusedSimpArgs false
set_option maxRecDepth 100000
section
variable {H : Type} {enc : TypeId × Value → H} {w : World} {base : Nat} {spare : Nat → Bool} {held : Bool}
theorem trod_f32st {P : Program} {t : TypeId} {fuel : Nat} {cs : List Value} {x : DataW H × List MemPlace} (ht : P.underlying t = some (.float .f32)) (h : DataW.trod enc P w base spare held fuel t cs = some x) :
    ∃ b, cs = [.float .f32 b] ∧ (Lit.float .f32 b).wf = true := by
  cases fuel with
  | zero => simp [DataW.trod] at h
  | succ n =>
    unfold DataW.trod at h
    rw [ht] at h
    split at h <;> simp_all
theorem trod_intst {P : Program} {k : IntKind} {t : TypeId} {fuel : Nat} {cs : List Value} {x : DataW H × List MemPlace} (ht : P.underlying t = some (.int k)) (h : DataW.trod enc P w base spare held fuel t cs = some x) :
    ∃ b, cs = [.int k b] ∧ (Lit.int k b).wf = true := by
  cases fuel with
  | zero => simp [DataW.trod] at h
  | succ n =>
    unfold DataW.trod at h
    rw [ht] at h
    split at h <;> simp_all
theorem trod_boolst {P : Program} {t : TypeId} {fuel : Nat} {cs : List Value} {x : DataW H × List MemPlace} (ht : P.underlying t = some .bool) (h : DataW.trod enc P w base spare held fuel t cs = some x) :
    ∃ b, cs = [.bool b] := by
  cases fuel with
  | zero => simp [DataW.trod] at h
  | succ n =>
    unfold DataW.trod at h
    rw [ht] at h
    split at h <;> simp_all
theorem l1_of {α : Type} {l : List α} (h : l.length = 1) : ∃ a, l = [a] := by
  match l, h with
  | [a], _ => exact ⟨a, rfl⟩
theorem l2_of {α : Type} {l : List α} (h : l.length = 2) : ∃ a b, l = [a, b] := by
  match l, h with
  | [a, b], _ => exact ⟨a, b, rfl⟩
theorem l3_of {α : Type} {l : List α} (h : l.length = 3) : ∃ a b c, l = [a, b, c] := by
  match l, h with
  | [a, b, c], _ => exact ⟨a, b, c, rfl⟩
theorem l4_of {α : Type} {l : List α} (h : l.length = 4) : ∃ a b c d, l = [a, b, c, d] := by
  match l, h with
  | [a, b, c, d], _ => exact ⟨a, b, c, d, rfl⟩
theorem l5_of {α : Type} {l : List α} (h : l.length = 5) : ∃ a b c d e, l = [a, b, c, d, e] := by
  match l, h with
  | [a, b, c, d, e], _ => exact ⟨a, b, c, d, e, rfl⟩
theorem l6_of {α : Type} {l : List α} (h : l.length = 6) : ∃ a b c d e f, l = [a, b, c, d, e, f] := by
  match l, h with
  | [a, b, c, d, e, f], _ => exact ⟨a, b, c, d, e, f, rfl⟩
theorem l7_of {α : Type} {l : List α} (h : l.length = 7) : ∃ a b c d e f g, l = [a, b, c, d, e, f, g] := by
  match l, h with
  | [a, b, c, d, e, f, g], _ => exact ⟨a, b, c, d, e, f, g, rfl⟩
theorem l8_of {α : Type} {l : List α} (h : l.length = 8) : ∃ a b c d e f g h, l = [a, b, c, d, e, f, g, h] := by
  match l, h with
  | [a, b, c, d, e, f, g, h], _ => exact ⟨a, b, c, d, e, f, g, h, rfl⟩
theorem l9_of {α : Type} {l : List α} (h : l.length = 9) : ∃ a b c d e f g h i, l = [a, b, c, d, e, f, g, h, i] := by
  match l, h with
  | [a, b, c, d, e, f, g, h, i], _ => exact ⟨a, b, c, d, e, f, g, h, i, rfl⟩
theorem l10_of {α : Type} {l : List α} (h : l.length = 10) : ∃ a b c d e f g h i j, l = [a, b, c, d, e, f, g, h, i, j] := by
  match l, h with
  | [a, b, c, d, e, f, g, h, i, j], _ => exact ⟨a, b, c, d, e, f, g, h, i, j, rfl⟩
end
structure Ml where
  b : Int
  h : Nat
  r : Nat
section
variable {H : Type} {enc : TypeId × Value → H} {w : World} {base : Nat} {spare : Nat → Bool} {held : Bool}
theorem mill_cells {fuel : Nat} {cs : List Value} {x : DataW H × List MemPlace} (h : DataW.trod enc Tryd.prog w base spare held fuel 52 cs = some x) :
    ∃ X : Ml, cs = [.int .i16 X.b, .float .f32 X.h, .float .f32 X.r] ∧ (Lit.int .i16 X.b).wf = true ∧ (Lit.float .f32 X.h).wf = true ∧ (Lit.float .f32 X.r).wf = true := by
  obtain ⟨xs, n, _, _, hlen, hxl, hf⟩ := DataW.trod_struct Tryd.underlying52 h
  have hC : Tryd.prog.cellsOf 52 = 3 := by kernel_rfl
  rw [hC] at hlen
  obtain ⟨v0, v1, v2, rfl⟩ := l3_of hlen
  obtain ⟨y0, y1, y2, rfl⟩ := l3_of (show xs.length = 3 from hxl)
  have f0 : DataW.trod enc Tryd.prog w base spare held n 50 (([v0, v1, v2].drop 0).take (Tryd.prog.cellsOf 50)) = some y0 := hf 0 _ rfl
  rw [show Tryd.prog.cellsOf 50 = 1 by kernel_rfl] at f0
  have f1 : DataW.trod enc Tryd.prog w base spare held n 24 (([v0, v1, v2].drop 1).take (Tryd.prog.cellsOf 24)) = some y1 := hf 1 _ rfl
  rw [show Tryd.prog.cellsOf 24 = 1 by kernel_rfl] at f1
  have f2 : DataW.trod enc Tryd.prog w base spare held n 24 (([v0, v1, v2].drop 2).take (Tryd.prog.cellsOf 24)) = some y2 := hf 2 _ rfl
  rw [show Tryd.prog.cellsOf 24 = 1 by kernel_rfl] at f2
  obtain ⟨x0, e0, w0⟩ := trod_intst Tryd.underlying50 f0
  obtain rfl : v0 = .int .i16 x0 := List.head_eq_of_cons_eq e0
  obtain ⟨x1, e1, w1⟩ := trod_f32st Tryd.underlying24 f1
  obtain rfl : v1 = .float .f32 x1 := List.head_eq_of_cons_eq e1
  obtain ⟨x2, e2, w2⟩ := trod_f32st Tryd.underlying24 f2
  obtain rfl : v2 = .float .f32 x2 := List.head_eq_of_cons_eq e2
  exact ⟨⟨x0, x1, x2⟩, rfl, w0, w1, w2⟩
theorem mill_in {r : Reach} {b0 : Nat} {v : Value} {d : DataW H} {p : List MemPlace} (hv : Value.okWide Tryd.prog w r b0 52 v) (h : DataW.Trod enc Tryd.prog w base spare held 52 v d p) :
    ∃ X : Ml, v = .agg #[.int .i16 X.b, .float .f32 X.h, .float .f32 X.r] ∧ (Lit.int .i16 X.b).wf = true ∧ (Lit.float .f32 X.h).wf = true ∧ (Lit.float .f32 X.r).wf = true := by
  obtain ⟨cs, rfl, hsz⟩ := okWide_struct Tryd.underlying52 hv
  obtain ⟨fuel, hf⟩ := h
  obtain ⟨X, hB, hw⟩ := mill_cells hf
  refine ⟨X, ?_, hw⟩
  obtain ⟨l⟩ := cs
  have : l = _ := hB
  rw [this]
end
def AtMl (w : World) (q : Nat) (X : Ml) : Prop := w.heap[q]? = some (.cells #[.int .i16 X.b, .float .f32 X.h, .float .f32 X.r] 56 (0, 0))
theorem AtMl.lt {w : World} {q : Nat} {X : Ml} (h : AtMl w q X) : q < w.heap.size := by
  rcases Nat.lt_or_ge q w.heap.size with hlt | hge
  · exact hlt
  · unfold AtMl at h; rw [Array.getElem?_eq_none hge] at h; cases h
theorem AtMl.on {w W w' : World} {q : Nat} {X : Ml} (h : AtMl w q X) (hW : W.heap = w.heap) (b : Below W.heap.size W w') : AtMl w' q X := (b.block q (by rw [hW]; exact h.lt)).trans (by rw [hW]; exact h)
theorem AtMl.under {w w' : World} {q B : Nat} {X : Ml} (h : AtMl w q X) (hq : q < B) (b : Below B w w') : AtMl w' q X := (b.block q hq).trans h
theorem AtMl.same {w W : World} {q : Nat} {X : Ml} (h : AtMl w q X) (hW : W.heap = w.heap) : AtMl W q X := by unfold AtMl; rw [hW]; exact h
theorem AtMl.push {w : World} {q : Nat} {X : Ml} (h : AtMl w q X) (o : Obj) : AtMl (w.alloc o) q X := h.on (W := w) rfl (b_alloc (Below.refl _ _) o)
theorem AtMl.new (w : World) (X : Ml) : AtMl (w.alloc (.cells #[.int .i16 X.b, .float .f32 X.h, .float .f32 X.r] 56)) w.heap.size X := heap_alloc_new w _
theorem AtMl.cells {w : World} {q : Nat} {X : Ml} (h : AtMl w q X) : w.cell? ⟨q, 0, none⟩ = some (.int .i16 X.b) ∧ w.cell? ⟨q, 1, none⟩ = some (.float .f32 X.h) ∧ w.cell? ⟨q, 2, none⟩ = some (.float .f32 X.r) :=
  ⟨cell_of_row _ _ 0 _ _ _ h, cell_of_row _ _ 1 _ _ _ h, cell_of_row _ _ 2 _ _ _ h⟩
def AtLMl (w : World) (q : Nat) (X : Ml) : Prop := w.heap[q]? = some (.cells #[.int .i16 X.b, .float .f32 X.h, .float .f32 X.r] 52 (0, 0))
theorem AtLMl.lt {w : World} {q : Nat} {X : Ml} (h : AtLMl w q X) : q < w.heap.size := by
  rcases Nat.lt_or_ge q w.heap.size with hlt | hge
  · exact hlt
  · unfold AtLMl at h; rw [Array.getElem?_eq_none hge] at h; cases h
theorem AtLMl.on {w W w' : World} {q : Nat} {X : Ml} (h : AtLMl w q X) (hW : W.heap = w.heap) (b : Below W.heap.size W w') : AtLMl w' q X := (b.block q (by rw [hW]; exact h.lt)).trans (by rw [hW]; exact h)
theorem AtLMl.under {w w' : World} {q B : Nat} {X : Ml} (h : AtLMl w q X) (hq : q < B) (b : Below B w w') : AtLMl w' q X := (b.block q hq).trans h
theorem AtLMl.same {w W : World} {q : Nat} {X : Ml} (h : AtLMl w q X) (hW : W.heap = w.heap) : AtLMl W q X := by unfold AtLMl; rw [hW]; exact h
theorem AtLMl.push {w : World} {q : Nat} {X : Ml} (h : AtLMl w q X) (o : Obj) : AtLMl (w.alloc o) q X := h.on (W := w) rfl (b_alloc (Below.refl _ _) o)
theorem AtLMl.new (w : World) (X : Ml) : AtLMl (w.alloc (.cells #[.int .i16 X.b, .float .f32 X.h, .float .f32 X.r] 52)) w.heap.size X := heap_alloc_new w _
theorem AtLMl.cells {w : World} {q : Nat} {X : Ml} (h : AtLMl w q X) : w.cell? ⟨q, 0, none⟩ = some (.int .i16 X.b) ∧ w.cell? ⟨q, 1, none⟩ = some (.float .f32 X.h) ∧ w.cell? ⟨q, 2, none⟩ = some (.float .f32 X.r) :=
  ⟨cell_of_row _ _ 0 _ _ _ h, cell_of_row _ _ 1 _ _ _ h, cell_of_row _ _ 2 _ _ _ h⟩
theorem toMl_any (X : Ml) (w : World) : Calls Tryd.prog 53 #[.agg #[.int .i16 X.b, .float .f32 X.h, .float .f32 X.r]] w (RV (.agg #[.int .i16 X.b, .float .f32 X.h, .float .f32 X.r]) w) := by
  go_enter Tryd.func53, Tryd.ntmps53
  go_wp2
  refine bodyPost_ret (v := .agg #[.int .i16 X.b, .float .f32 X.h, .float .f32 X.r]) (by simp [results, Tryd.results53, go_sem]) rfl ⟨rfl, ?_⟩
  (repeat (first | exact Below.refl _ _ | refine b_drewN ?_ _ | refine b_drew ?_ | refine b_alloc ?_ _ | refine b_then ?_ (by assumption)))
structure Se where
  s : Nat
  g : Int
def AtSe (w : World) (q : Nat) (X : Se) : Prop := w.heap[q]? = some (.cells #[.float .f32 X.s, .int .i8 X.g] 126 (0, 0))
theorem AtSe.lt {w : World} {q : Nat} {X : Se} (h : AtSe w q X) : q < w.heap.size := by
  rcases Nat.lt_or_ge q w.heap.size with hlt | hge
  · exact hlt
  · unfold AtSe at h; rw [Array.getElem?_eq_none hge] at h; cases h
theorem AtSe.on {w W w' : World} {q : Nat} {X : Se} (h : AtSe w q X) (hW : W.heap = w.heap) (b : Below W.heap.size W w') : AtSe w' q X := (b.block q (by rw [hW]; exact h.lt)).trans (by rw [hW]; exact h)
theorem AtSe.under {w w' : World} {q B : Nat} {X : Se} (h : AtSe w q X) (hq : q < B) (b : Below B w w') : AtSe w' q X := (b.block q hq).trans h
theorem AtSe.same {w W : World} {q : Nat} {X : Se} (h : AtSe w q X) (hW : W.heap = w.heap) : AtSe W q X := by unfold AtSe; rw [hW]; exact h
theorem AtSe.push {w : World} {q : Nat} {X : Se} (h : AtSe w q X) (o : Obj) : AtSe (w.alloc o) q X := h.on (W := w) rfl (b_alloc (Below.refl _ _) o)
theorem AtSe.new (w : World) (X : Se) : AtSe (w.alloc (.cells #[.float .f32 X.s, .int .i8 X.g] 126)) w.heap.size X := heap_alloc_new w _
theorem AtSe.cells {w : World} {q : Nat} {X : Se} (h : AtSe w q X) : w.cell? ⟨q, 0, none⟩ = some (.float .f32 X.s) ∧ w.cell? ⟨q, 1, none⟩ = some (.int .i8 X.g) :=
  ⟨cell_of_row _ _ 0 _ _ _ h, cell_of_row _ _ 1 _ _ _ h⟩
structure Gv where
  mb : Int
  mh : Nat
  mr : Nat
  ar : Nat
  he : Nat
  lo : Nat
  hi : Nat
  ine : Nat
section
variable {H : Type} {enc : TypeId × Value → H} {w : World} {base : Nat} {spare : Nat → Bool} {held : Bool}
theorem gov_cells {fuel : Nat} {cs : List Value} {x : DataW H × List MemPlace} (h : DataW.trod enc Tryd.prog w base spare held fuel 54 cs = some x) :
    ∃ X : Gv, cs = [.int .i16 X.mb, .float .f32 X.mh, .float .f32 X.mr, .float .f32 X.ar, .float .f32 X.he, .float .f32 X.lo, .float .f32 X.hi, .float .f32 X.ine] ∧ (Lit.int .i16 X.mb).wf = true ∧ (Lit.float .f32 X.mh).wf = true ∧ (Lit.float .f32 X.mr).wf = true ∧ (Lit.float .f32 X.ar).wf = true ∧ (Lit.float .f32 X.he).wf = true ∧ (Lit.float .f32 X.lo).wf = true ∧ (Lit.float .f32 X.hi).wf = true ∧ (Lit.float .f32 X.ine).wf = true := by
  obtain ⟨xs, n, _, _, hlen, hxl, hf⟩ := DataW.trod_struct Tryd.underlying54 h
  have hC : Tryd.prog.cellsOf 54 = 8 := by kernel_rfl
  rw [hC] at hlen
  obtain ⟨v0, v1, v2, v3, v4, v5, v6, v7, rfl⟩ := l8_of hlen
  obtain ⟨y0, y1, y2, y3, y4, y5, rfl⟩ := l6_of (show xs.length = 6 from hxl)
  have f0 : DataW.trod enc Tryd.prog w base spare held n 52 (([v0, v1, v2, v3, v4, v5, v6, v7].drop 0).take (Tryd.prog.cellsOf 52)) = some y0 := hf 0 _ rfl
  rw [show Tryd.prog.cellsOf 52 = 3 by kernel_rfl] at f0
  have f1 : DataW.trod enc Tryd.prog w base spare held n 24 (([v0, v1, v2, v3, v4, v5, v6, v7].drop 3).take (Tryd.prog.cellsOf 24)) = some y1 := hf 1 _ rfl
  rw [show Tryd.prog.cellsOf 24 = 1 by kernel_rfl] at f1
  have f2 : DataW.trod enc Tryd.prog w base spare held n 24 (([v0, v1, v2, v3, v4, v5, v6, v7].drop 4).take (Tryd.prog.cellsOf 24)) = some y2 := hf 2 _ rfl
  rw [show Tryd.prog.cellsOf 24 = 1 by kernel_rfl] at f2
  have f3 : DataW.trod enc Tryd.prog w base spare held n 24 (([v0, v1, v2, v3, v4, v5, v6, v7].drop 5).take (Tryd.prog.cellsOf 24)) = some y3 := hf 3 _ rfl
  rw [show Tryd.prog.cellsOf 24 = 1 by kernel_rfl] at f3
  have f4 : DataW.trod enc Tryd.prog w base spare held n 24 (([v0, v1, v2, v3, v4, v5, v6, v7].drop 6).take (Tryd.prog.cellsOf 24)) = some y4 := hf 4 _ rfl
  rw [show Tryd.prog.cellsOf 24 = 1 by kernel_rfl] at f4
  have f5 : DataW.trod enc Tryd.prog w base spare held n 24 (([v0, v1, v2, v3, v4, v5, v6, v7].drop 7).take (Tryd.prog.cellsOf 24)) = some y5 := hf 5 _ rfl
  rw [show Tryd.prog.cellsOf 24 = 1 by kernel_rfl] at f5
  obtain ⟨x0, e0, w0_0, w0_1, w0_2⟩ := mill_cells f0
  simp only [List.drop_zero, List.drop_succ_cons, List.take_succ_cons, List.take_zero, List.cons.injEq, and_true] at e0
  obtain ⟨rfl, rfl, rfl⟩ := e0
  obtain ⟨x1, e1, w1⟩ := trod_f32st Tryd.underlying24 f1
  obtain rfl : v3 = .float .f32 x1 := List.head_eq_of_cons_eq e1
  obtain ⟨x2, e2, w2⟩ := trod_f32st Tryd.underlying24 f2
  obtain rfl : v4 = .float .f32 x2 := List.head_eq_of_cons_eq e2
  obtain ⟨x3, e3, w3⟩ := trod_f32st Tryd.underlying24 f3
  obtain rfl : v5 = .float .f32 x3 := List.head_eq_of_cons_eq e3
  obtain ⟨x4, e4, w4⟩ := trod_f32st Tryd.underlying24 f4
  obtain rfl : v6 = .float .f32 x4 := List.head_eq_of_cons_eq e4
  obtain ⟨x5, e5, w5⟩ := trod_f32st Tryd.underlying24 f5
  obtain rfl : v7 = .float .f32 x5 := List.head_eq_of_cons_eq e5
  exact ⟨⟨x0.b, x0.h, x0.r, x1, x2, x3, x4, x5⟩, rfl, w0_0, w0_1, w0_2, w1, w2, w3, w4, w5⟩
theorem gov_in {r : Reach} {b0 : Nat} {v : Value} {d : DataW H} {p : List MemPlace} (hv : Value.okWide Tryd.prog w r b0 54 v) (h : DataW.Trod enc Tryd.prog w base spare held 54 v d p) :
    ∃ X : Gv, v = .agg #[.int .i16 X.mb, .float .f32 X.mh, .float .f32 X.mr, .float .f32 X.ar, .float .f32 X.he, .float .f32 X.lo, .float .f32 X.hi, .float .f32 X.ine] ∧ (Lit.int .i16 X.mb).wf = true ∧ (Lit.float .f32 X.mh).wf = true ∧ (Lit.float .f32 X.mr).wf = true ∧ (Lit.float .f32 X.ar).wf = true ∧ (Lit.float .f32 X.he).wf = true ∧ (Lit.float .f32 X.lo).wf = true ∧ (Lit.float .f32 X.hi).wf = true ∧ (Lit.float .f32 X.ine).wf = true := by
  obtain ⟨cs, rfl, hsz⟩ := okWide_struct Tryd.underlying54 hv
  obtain ⟨fuel, hf⟩ := h
  obtain ⟨X, hB, hw⟩ := gov_cells hf
  refine ⟨X, ?_, hw⟩
  obtain ⟨l⟩ := cs
  have : l = _ := hB
  rw [this]
end
def AtGv (w : World) (q : Nat) (X : Gv) : Prop := w.heap[q]? = some (.cells #[.int .i16 X.mb, .float .f32 X.mh, .float .f32 X.mr, .float .f32 X.ar, .float .f32 X.he, .float .f32 X.lo, .float .f32 X.hi, .float .f32 X.ine] 58 (0, 0))
theorem AtGv.lt {w : World} {q : Nat} {X : Gv} (h : AtGv w q X) : q < w.heap.size := by
  rcases Nat.lt_or_ge q w.heap.size with hlt | hge
  · exact hlt
  · unfold AtGv at h; rw [Array.getElem?_eq_none hge] at h; cases h
theorem AtGv.on {w W w' : World} {q : Nat} {X : Gv} (h : AtGv w q X) (hW : W.heap = w.heap) (b : Below W.heap.size W w') : AtGv w' q X := (b.block q (by rw [hW]; exact h.lt)).trans (by rw [hW]; exact h)
theorem AtGv.under {w w' : World} {q B : Nat} {X : Gv} (h : AtGv w q X) (hq : q < B) (b : Below B w w') : AtGv w' q X := (b.block q hq).trans h
theorem AtGv.same {w W : World} {q : Nat} {X : Gv} (h : AtGv w q X) (hW : W.heap = w.heap) : AtGv W q X := by unfold AtGv; rw [hW]; exact h
theorem AtGv.push {w : World} {q : Nat} {X : Gv} (h : AtGv w q X) (o : Obj) : AtGv (w.alloc o) q X := h.on (W := w) rfl (b_alloc (Below.refl _ _) o)
theorem AtGv.new (w : World) (X : Gv) : AtGv (w.alloc (.cells #[.int .i16 X.mb, .float .f32 X.mh, .float .f32 X.mr, .float .f32 X.ar, .float .f32 X.he, .float .f32 X.lo, .float .f32 X.hi, .float .f32 X.ine] 58)) w.heap.size X := heap_alloc_new w _
theorem AtGv.cells {w : World} {q : Nat} {X : Gv} (h : AtGv w q X) : w.cell? ⟨q, 0, none⟩ = some (.int .i16 X.mb) ∧ w.cell? ⟨q, 1, none⟩ = some (.float .f32 X.mh) ∧ w.cell? ⟨q, 2, none⟩ = some (.float .f32 X.mr) ∧ w.cell? ⟨q, 3, none⟩ = some (.float .f32 X.ar) ∧ w.cell? ⟨q, 4, none⟩ = some (.float .f32 X.he) ∧ w.cell? ⟨q, 5, none⟩ = some (.float .f32 X.lo) ∧ w.cell? ⟨q, 6, none⟩ = some (.float .f32 X.hi) ∧ w.cell? ⟨q, 7, none⟩ = some (.float .f32 X.ine) :=
  ⟨cell_of_row _ _ 0 _ _ _ h, cell_of_row _ _ 1 _ _ _ h, cell_of_row _ _ 2 _ _ _ h, cell_of_row _ _ 3 _ _ _ h, cell_of_row _ _ 4 _ _ _ h, cell_of_row _ _ 5 _ _ _ h, cell_of_row _ _ 6 _ _ _ h, cell_of_row _ _ 7 _ _ _ h⟩
def AtLGv (w : World) (q : Nat) (X : Gv) : Prop := w.heap[q]? = some (.cells #[.int .i16 X.mb, .float .f32 X.mh, .float .f32 X.mr, .float .f32 X.ar, .float .f32 X.he, .float .f32 X.lo, .float .f32 X.hi, .float .f32 X.ine] 54 (0, 0))
theorem AtLGv.lt {w : World} {q : Nat} {X : Gv} (h : AtLGv w q X) : q < w.heap.size := by
  rcases Nat.lt_or_ge q w.heap.size with hlt | hge
  · exact hlt
  · unfold AtLGv at h; rw [Array.getElem?_eq_none hge] at h; cases h
theorem AtLGv.on {w W w' : World} {q : Nat} {X : Gv} (h : AtLGv w q X) (hW : W.heap = w.heap) (b : Below W.heap.size W w') : AtLGv w' q X := (b.block q (by rw [hW]; exact h.lt)).trans (by rw [hW]; exact h)
theorem AtLGv.under {w w' : World} {q B : Nat} {X : Gv} (h : AtLGv w q X) (hq : q < B) (b : Below B w w') : AtLGv w' q X := (b.block q hq).trans h
theorem AtLGv.same {w W : World} {q : Nat} {X : Gv} (h : AtLGv w q X) (hW : W.heap = w.heap) : AtLGv W q X := by unfold AtLGv; rw [hW]; exact h
theorem AtLGv.push {w : World} {q : Nat} {X : Gv} (h : AtLGv w q X) (o : Obj) : AtLGv (w.alloc o) q X := h.on (W := w) rfl (b_alloc (Below.refl _ _) o)
theorem AtLGv.new (w : World) (X : Gv) : AtLGv (w.alloc (.cells #[.int .i16 X.mb, .float .f32 X.mh, .float .f32 X.mr, .float .f32 X.ar, .float .f32 X.he, .float .f32 X.lo, .float .f32 X.hi, .float .f32 X.ine] 54)) w.heap.size X := heap_alloc_new w _
theorem AtLGv.cells {w : World} {q : Nat} {X : Gv} (h : AtLGv w q X) : w.cell? ⟨q, 0, none⟩ = some (.int .i16 X.mb) ∧ w.cell? ⟨q, 1, none⟩ = some (.float .f32 X.mh) ∧ w.cell? ⟨q, 2, none⟩ = some (.float .f32 X.mr) ∧ w.cell? ⟨q, 3, none⟩ = some (.float .f32 X.ar) ∧ w.cell? ⟨q, 4, none⟩ = some (.float .f32 X.he) ∧ w.cell? ⟨q, 5, none⟩ = some (.float .f32 X.lo) ∧ w.cell? ⟨q, 6, none⟩ = some (.float .f32 X.hi) ∧ w.cell? ⟨q, 7, none⟩ = some (.float .f32 X.ine) :=
  ⟨cell_of_row _ _ 0 _ _ _ h, cell_of_row _ _ 1 _ _ _ h, cell_of_row _ _ 2 _ _ _ h, cell_of_row _ _ 3 _ _ _ h, cell_of_row _ _ 4 _ _ _ h, cell_of_row _ _ 5 _ _ _ h, cell_of_row _ _ 6 _ _ _ h, cell_of_row _ _ 7 _ _ _ h⟩
end Go.Proofs.YtjkgiknklkfipaaDoor