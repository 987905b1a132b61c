/-
  Teeth that come in by value: a struct with an array.
-/
import Derived.Test.YtkkcihgnpephiaaDoorOps
import Derived.Test.YtkkcihgnpephiaaDoorSk
import Derived.ChangeArms
import Derived.OpenShut
import Derived.Deep.Slices
import Derived.Lib.SmallJoins
namespace Go.Proofs.YtkkcihgnpephiaaDoor
open Go.RowKit Go.ChangeShapes Go.WideShapes Go.Deep Go.Joins
attribute [local go_sem ↓] Go.wp_at_zero Go.wp_at_succ
set_option linter.unusedVariables false
set_option linter.unusedSimpArgs false
set_option maxRecDepth 100000
structure Th where
  h : Nat
  u : Nat
  v : Nat
  s : Int
section
variable {H : Type} {enc : TypeId × Value → H} {w : World} {base : Nat} {spare : Nat → Bool} {held : Bool}
theorem arr2_cells {fuel : Nat} {cs : List Value} {x : DataW H × List MemPlace} (h : DataW.trod enc Tryd.prog w base spare held fuel 67 cs = some x) :
    ∃ a b : Nat, cs = [.float .f32 a, .float .f32 b] ∧ (Lit.float .f32 a).wf = true ∧ (Lit.float .f32 b).wf = true := by
  obtain ⟨xs, n, _, _, hlen, hxl, hf⟩ := DataW.trod_array Tryd.underlying67 h
  have hC : Tryd.prog.cellsOf 67 = 2 := by kernel_rfl
  have hE : Tryd.prog.cellsOf 22 = 1 := by kernel_rfl
  rw [hC] at hlen
  obtain ⟨v0, v1, rfl⟩ := l2_of hlen
  obtain ⟨y0, y1, rfl⟩ := l2_of hxl
  have f0 : DataW.trod enc Tryd.prog w base spare held n 22 [v0] = some y0 := by have := hf 0 (by decide); rw [hE] at this; exact this
  have f1 : DataW.trod enc Tryd.prog w base spare held n 22 [v1] = some y1 := by have := hf 1 (by decide); rw [hE] at this; exact this
  obtain ⟨x0, e0, w0⟩ := trod_f32st Tryd.underlying22 f0
  obtain rfl : v0 = .float .f32 x0 := List.head_eq_of_cons_eq e0
  obtain ⟨x1, e1, w1⟩ := trod_f32st Tryd.underlying22 f1
  obtain rfl : v1 = .float .f32 x1 := List.head_eq_of_cons_eq e1
  exact ⟨x0, x1, rfl, w0, w1⟩
theorem tooth_cells {fuel : Nat} {cs : List Value} {x : DataW H × List MemPlace} (h : DataW.trod enc Tryd.prog w base spare held fuel 70 cs = some x) :
    ∃ X : Th, cs = [.float .f32 X.h, .float .f32 X.u, .float .f32 X.v, .int .i8 X.s] ∧ (Lit.float .f32 X.h).wf = true ∧ (Lit.float .f32 X.u).wf = true ∧ (Lit.float .f32 X.v).wf = true ∧ (Lit.int .i8 X.s).wf = true := by
  obtain ⟨xs, n, _, _, hlen, hxl, hf⟩ := DataW.trod_struct Tryd.underlying70 h
  have hC : Tryd.prog.cellsOf 70 = 4 := by kernel_rfl
  rw [hC] at hlen
  obtain ⟨v0, v1, v2, v3, rfl⟩ := l4_of hlen
  obtain ⟨y0, y1, y2, rfl⟩ := l3_of (show xs.length = 3 from hxl)
  have f0 : DataW.trod enc Tryd.prog w base spare held n 22 (([v0, v1, v2, v3].drop 0).take (Tryd.prog.cellsOf 22)) = some y0 := hf 0 _ rfl
  rw [show Tryd.prog.cellsOf 22 = 1 by kernel_rfl] at f0
  have f1 : DataW.trod enc Tryd.prog w base spare held n 67 (([v0, v1, v2, v3].drop 1).take (Tryd.prog.cellsOf 67)) = some y1 := hf 1 _ rfl
  rw [show Tryd.prog.cellsOf 67 = 2 by kernel_rfl] at f1
  have f2 : DataW.trod enc Tryd.prog w base spare held n 68 (([v0, v1, v2, v3].drop 3).take (Tryd.prog.cellsOf 68)) = some y2 := hf 2 _ rfl
  rw [show Tryd.prog.cellsOf 68 = 1 by kernel_rfl] at f2
  obtain ⟨x0, e0, w0⟩ := trod_f32st Tryd.underlying22 f0
  obtain rfl : v0 = .float .f32 x0 := List.head_eq_of_cons_eq e0
  obtain ⟨x1, x2, e1, w1, w2⟩ := arr2_cells f1
  simp only [List.drop_zero, List.drop_succ_cons, List.take_succ_cons, List.take_zero, List.cons.injEq, and_true] at e1
  obtain ⟨rfl, rfl⟩ := e1
  obtain ⟨x3, e3, w3⟩ := trod_intst Tryd.underlying68 f2
  obtain rfl : v3 = .int .i8 x3 := List.head_eq_of_cons_eq e3
  exact ⟨⟨x0, x1, x2, x3⟩, rfl, w0, w1, w2, w3⟩
theorem tooth_in {r : Reach} {b0 : Nat} {v : Value} {d : DataW H} {p : List MemPlace} (hv : Value.okWide Tryd.prog w r b0 70 v) (h : DataW.Trod enc Tryd.prog w base spare held 70 v d p) :
    ∃ X : Th, v = .agg #[.float .f32 X.h, .float .f32 X.u, .float .f32 X.v, .int .i8 X.s] ∧ (Lit.float .f32 X.h).wf = true ∧ (Lit.float .f32 X.u).wf = true ∧ (Lit.float .f32 X.v).wf = true ∧ (Lit.int .i8 X.s).wf = true := by
  obtain ⟨cs, rfl, hsz⟩ := okWide_struct Tryd.underlying70 hv
  obtain ⟨fuel, hf⟩ := h
  obtain ⟨X, hB, hw⟩ := tooth_cells hf
  refine ⟨X, ?_, hw⟩
  obtain ⟨l⟩ := cs
  have : l = _ := hB
  rw [this]
end
def AtTh (w : World) (q : Nat) (X : Th) : Prop := w.heap[q]? = some (.cells #[.float .f32 X.h, .float .f32 X.u, .float .f32 X.v, .int .i8 X.s] 72 (0, 0))
theorem AtTh.lt {w : World} {q : Nat} {X : Th} (h : AtTh w q X) : q < w.heap.size := by
  rcases Nat.lt_or_ge q w.heap.size with hlt | hge
  · exact hlt
  · unfold AtTh at h; rw [Array.getElem?_eq_none hge] at h; cases h
theorem AtTh.on {w W w' : World} {q : Nat} {X : Th} (h : AtTh w q X) (hW : W.heap = w.heap) (b : Below W.heap.size W w') : AtTh w' q X := (b.block q (by rw [hW]; exact h.lt)).trans (by rw [hW]; exact h)
theorem AtTh.under {w w' : World} {q B : Nat} {X : Th} (h : AtTh w q X) (hq : q < B) (b : Below B w w') : AtTh w' q X := (b.block q hq).trans h
theorem AtTh.same {w W : World} {q : Nat} {X : Th} (h : AtTh w q X) (hW : W.heap = w.heap) : AtTh W q X := by unfold AtTh; rw [hW]; exact h
theorem AtTh.push {w : World} {q : Nat} {X : Th} (h : AtTh w q X) (o : Obj) : AtTh (w.alloc o) q X := h.on (W := w) rfl (b_alloc (Below.refl _ _) o)
theorem AtTh.new (w : World) (X : Th) : AtTh (w.alloc (.cells #[.float .f32 X.h, .float .f32 X.u, .float .f32 X.v, .int .i8 X.s] 72)) w.heap.size X := heap_alloc_new w _
theorem AtTh.cells {w : World} {q : Nat} {X : Th} (h : AtTh w q X) : w.cell? ⟨q, 0, none⟩ = some (.float .f32 X.h) ∧ w.cell? ⟨q, 1, none⟩ = some (.float .f32 X.u) ∧ w.cell? ⟨q, 2, none⟩ = some (.float .f32 X.v) ∧ w.cell? ⟨q, 3, none⟩ = some (.int .i8 X.s) :=
  ⟨cell_of_row _ _ 0 _ _ _ h, cell_of_row _ _ 1 _ _ _ h, cell_of_row _ _ 2 _ _ _ h, cell_of_row _ _ 3 _ _ _ h⟩
def AtLTh (w : World) (q : Nat) (X : Th) : Prop := w.heap[q]? = some (.cells #[.float .f32 X.h, .float .f32 X.u, .float .f32 X.v, .int .i8 X.s] 70 (0, 0))
theorem AtLTh.lt {w : World} {q : Nat} {X : Th} (h : AtLTh w q X) : q < w.heap.size := by
  rcases Nat.lt_or_ge q w.heap.size with hlt | hge
  · exact hlt
  · unfold AtLTh at h; rw [Array.getElem?_eq_none hge] at h; cases h
theorem AtLTh.on {w W w' : World} {q : Nat} {X : Th} (h : AtLTh w q X) (hW : W.heap = w.heap) (b : Below W.heap.size W w') : AtLTh w' q X := (b.block q (by rw [hW]; exact h.lt)).trans (by rw [hW]; exact h)
theorem AtLTh.under {w w' : World} {q B : Nat} {X : Th} (h : AtLTh w q X) (hq : q < B) (b : Below B w w') : AtLTh w' q X := (b.block q hq).trans h
theorem AtLTh.same {w W : World} {q : Nat} {X : Th} (h : AtLTh w q X) (hW : W.heap = w.heap) : AtLTh W q X := by unfold AtLTh; rw [hW]; exact h
theorem AtLTh.push {w : World} {q : Nat} {X : Th} (h : AtLTh w q X) (o : Obj) : AtLTh (w.alloc o) q X := h.on (W := w) rfl (b_alloc (Below.refl _ _) o)
theorem AtLTh.new (w : World) (X : Th) : AtLTh (w.alloc (.cells #[.float .f32 X.h, .float .f32 X.u, .float .f32 X.v, .int .i8 X.s] 70)) w.heap.size X := heap_alloc_new w _
theorem AtLTh.cells {w : World} {q : Nat} {X : Th} (h : AtLTh w q X) : w.cell? ⟨q, 0, none⟩ = some (.float .f32 X.h) ∧ w.cell? ⟨q, 1, none⟩ = some (.float .f32 X.u) ∧ w.cell? ⟨q, 2, none⟩ = some (.float .f32 X.v) ∧ w.cell? ⟨q, 3, none⟩ = some (.int .i8 X.s) :=
  ⟨cell_of_row _ _ 0 _ _ _ h, cell_of_row _ _ 1 _ _ _ h, cell_of_row _ _ 2 _ _ _ h, cell_of_row _ _ 3 _ _ _ h⟩
end Go.Proofs.YtkkcihgnpephiaaDoor