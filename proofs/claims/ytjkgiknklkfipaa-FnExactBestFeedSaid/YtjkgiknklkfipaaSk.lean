/-
  Structs that come in by value: stones.
-/
import Derived.Test.YtjkgiknklkfipaaOps
import Derived.ChangeArms
import Derived.Deep.Slices
import Derived.Lib.SmallJoins
namespace Go.Proofs.Ytjkgiknklkfipaa
open Go.RowKit Go.ChangeShapes Go.WideShapes Go.Deep Go.Joins
attribute [local go_sem ↓] Go.wp_at_zero Go.wp_at_succ
set_option linter.unusedVariables false
set_option linter.unusedSimpArgs false
set_option maxRecDepth 100000
section
variable {H : Type} {enc : TypeId × Value → H} {w : World} {base : Nat} {spare : Nat → Bool} {held : Bool}
theorem trod_f32st {P : Program} {t : TypeId} {fuel : Nat} {cs : List Value} {x : DataW H × List MemPlace} (ht : P.underlying t = some (.float .f32)) (h : DataW.trod enc P w base spare held fuel t cs = some x) :
    ∃ b, cs = [.float .f32 b] ∧ (Lit.float .f32 b).wf = true := by
  cases fuel with
  | zero => simp [DataW.trod] at h
  | succ n =>
    unfold DataW.trod at h
    rw [ht] at h
    split at h <;> simp_all
theorem trod_intst {P : Program} {k : IntKind} {t : TypeId} {fuel : Nat} {cs : List Value} {x : DataW H × List MemPlace} (ht : P.underlying t = some (.int k)) (h : DataW.trod enc P w base spare held fuel t cs = some x) :
    ∃ b, cs = [.int k b] ∧ (Lit.int k b).wf = true := by
  cases fuel with
  | zero => simp [DataW.trod] at h
  | succ n =>
    unfold DataW.trod at h
    rw [ht] at h
    split at h <;> simp_all
theorem trod_boolst {P : Program} {t : TypeId} {fuel : Nat} {cs : List Value} {x : DataW H × List MemPlace} (ht : P.underlying t = some .bool) (h : DataW.trod enc P w base spare held fuel t cs = some x) :
    ∃ b, cs = [.bool b] := by
  cases fuel with
  | zero => simp [DataW.trod] at h
  | succ n =>
    unfold DataW.trod at h
    rw [ht] at h
    split at h <;> simp_all
theorem l1_of {α : Type} {l : List α} (h : l.length = 1) : ∃ a, l = [a] := by
  match l, h with
  | [a], _ => exact ⟨a, rfl⟩
theorem l2_of {α : Type} {l : List α} (h : l.length = 2) : ∃ a b, l = [a, b] := by
  match l, h with
  | [a, b], _ => exact ⟨a, b, rfl⟩
theorem l3_of {α : Type} {l : List α} (h : l.length = 3) : ∃ a b c, l = [a, b, c] := by
  match l, h with
  | [a, b, c], _ => exact ⟨a, b, c, rfl⟩
theorem l4_of {α : Type} {l : List α} (h : l.length = 4) : ∃ a b c d, l = [a, b, c, d] := by
  match l, h with
  | [a, b, c, d], _ => exact ⟨a, b, c, d, rfl⟩
theorem l5_of {α : Type} {l : List α} (h : l.length = 5) : ∃ a b c d e, l = [a, b, c, d, e] := by
  match l, h with
  | [a, b, c, d, e], _ => exact ⟨a, b, c, d, e, rfl⟩
theorem l6_of {α : Type} {l : List α} (h : l.length = 6) : ∃ a b c d e f, l = [a, b, c, d, e, f] := by
  match l, h with
  | [a, b, c, d, e, f], _ => exact ⟨a, b, c, d, e, f, rfl⟩
theorem l7_of {α : Type} {l : List α} (h : l.length = 7) : ∃ a b c d e f g, l = [a, b, c, d, e, f, g] := by
  match l, h with
  | [a, b, c, d, e, f, g], _ => exact ⟨a, b, c, d, e, f, g, rfl⟩
theorem l8_of {α : Type} {l : List α} (h : l.length = 8) : ∃ a b c d e f g h, l = [a, b, c, d, e, f, g, h] := by
  match l, h with
  | [a, b, c, d, e, f, g, h], _ => exact ⟨a, b, c, d, e, f, g, h, rfl⟩
theorem l9_of {α : Type} {l : List α} (h : l.length = 9) : ∃ a b c d e f g h i, l = [a, b, c, d, e, f, g, h, i] := by
  match l, h with
  | [a, b, c, d, e, f, g, h, i], _ => exact ⟨a, b, c, d, e, f, g, h, i, rfl⟩
theorem l10_of {α : Type} {l : List α} (h : l.length = 10) : ∃ a b c d e f g h i j, l = [a, b, c, d, e, f, g, h, i, j] := by
  match l, h with
  | [a, b, c, d, e, f, g, h, i, j], _ => exact ⟨a, b, c, d, e, f, g, h, i, j, rfl⟩
end
structure Sn where
  d : Nat
  r : Nat
  b : Nat
  g : Nat
section
variable {H : Type} {enc : TypeId × Value → H} {w : World} {base : Nat} {spare : Nat → Bool} {held : Bool}
theorem stone_cells {fuel : Nat} {cs : List Value} {x : DataW H × List MemPlace} (h : DataW.trod enc Try.prog w base spare held fuel 40 cs = some x) :
    ∃ X : Sn, cs = [.float .f32 X.d, .float .f32 X.r, .float .f32 X.b, .float .f32 X.g] ∧ (Lit.float .f32 X.d).wf = true ∧ (Lit.float .f32 X.r).wf = true ∧ (Lit.float .f32 X.b).wf = true ∧ (Lit.float .f32 X.g).wf = true := by
  obtain ⟨xs, n, _, _, hlen, hxl, hf⟩ := DataW.trod_struct Try.underlying40 h
  have hC : Try.prog.cellsOf 40 = 4 := by kernel_rfl
  rw [hC] at hlen
  obtain ⟨v0, v1, v2, v3, rfl⟩ := l4_of hlen
  obtain ⟨y0, y1, y2, y3, rfl⟩ := l4_of (show xs.length = 4 from hxl)
  have f0 : DataW.trod enc Try.prog w base spare held n 24 (([v0, v1, v2, v3].drop 0).take (Try.prog.cellsOf 24)) = some y0 := hf 0 _ rfl
  rw [show Try.prog.cellsOf 24 = 1 by kernel_rfl] at f0
  have f1 : DataW.trod enc Try.prog w base spare held n 24 (([v0, v1, v2, v3].drop 1).take (Try.prog.cellsOf 24)) = some y1 := hf 1 _ rfl
  rw [show Try.prog.cellsOf 24 = 1 by kernel_rfl] at f1
  have f2 : DataW.trod enc Try.prog w base spare held n 24 (([v0, v1, v2, v3].drop 2).take (Try.prog.cellsOf 24)) = some y2 := hf 2 _ rfl
  rw [show Try.prog.cellsOf 24 = 1 by kernel_rfl] at f2
  have f3 : DataW.trod enc Try.prog w base spare held n 24 (([v0, v1, v2, v3].drop 3).take (Try.prog.cellsOf 24)) = some y3 := hf 3 _ rfl
  rw [show Try.prog.cellsOf 24 = 1 by kernel_rfl] at f3
  obtain ⟨x0, e0, w0⟩ := trod_f32st Try.underlying24 f0
  obtain rfl : v0 = .float .f32 x0 := List.head_eq_of_cons_eq e0
  obtain ⟨x1, e1, w1⟩ := trod_f32st Try.underlying24 f1
  obtain rfl : v1 = .float .f32 x1 := List.head_eq_of_cons_eq e1
  obtain ⟨x2, e2, w2⟩ := trod_f32st Try.underlying24 f2
  obtain rfl : v2 = .float .f32 x2 := List.head_eq_of_cons_eq e2
  obtain ⟨x3, e3, w3⟩ := trod_f32st Try.underlying24 f3
  obtain rfl : v3 = .float .f32 x3 := List.head_eq_of_cons_eq e3
  exact ⟨⟨x0, x1, x2, x3⟩, rfl, w0, w1, w2, w3⟩
theorem stone_in {r : Reach} {b0 : Nat} {v : Value} {d : DataW H} {p : List MemPlace} (hv : Value.okWide Try.prog w r b0 40 v) (h : DataW.Trod enc Try.prog w base spare held 40 v d p) :
    ∃ X : Sn, v = .agg #[.float .f32 X.d, .float .f32 X.r, .float .f32 X.b, .float .f32 X.g] ∧ (Lit.float .f32 X.d).wf = true ∧ (Lit.float .f32 X.r).wf = true ∧ (Lit.float .f32 X.b).wf = true ∧ (Lit.float .f32 X.g).wf = true := by
  obtain ⟨cs, rfl, hsz⟩ := okWide_struct Try.underlying40 hv
  obtain ⟨fuel, hf⟩ := h
  obtain ⟨X, hB, hw⟩ := stone_cells hf
  refine ⟨X, ?_, hw⟩
  obtain ⟨l⟩ := cs
  have : l = _ := hB
  rw [this]
end
def AtSn (w : World) (q : Nat) (X : Sn) : Prop := w.heap[q]? = some (.cells #[.float .f32 X.d, .float .f32 X.r, .float .f32 X.b, .float .f32 X.g] 42 (0, 0))
theorem AtSn.lt {w : World} {q : Nat} {X : Sn} (h : AtSn w q X) : q < w.heap.size := by
  rcases Nat.lt_or_ge q w.heap.size with hlt | hge
  · exact hlt
  · unfold AtSn at h; rw [Array.getElem?_eq_none hge] at h; cases h
theorem AtSn.on {w W w' : World} {q : Nat} {X : Sn} (h : AtSn w q X) (hW : W.heap = w.heap) (b : Below W.heap.size W w') : AtSn w' q X := (b.block q (by rw [hW]; exact h.lt)).trans (by rw [hW]; exact h)
theorem AtSn.under {w w' : World} {q B : Nat} {X : Sn} (h : AtSn w q X) (hq : q < B) (b : Below B w w') : AtSn w' q X := (b.block q hq).trans h
theorem AtSn.same {w W : World} {q : Nat} {X : Sn} (h : AtSn w q X) (hW : W.heap = w.heap) : AtSn W q X := by unfold AtSn; rw [hW]; exact h
theorem AtSn.push {w : World} {q : Nat} {X : Sn} (h : AtSn w q X) (o : Obj) : AtSn (w.alloc o) q X := h.on (W := w) rfl (b_alloc (Below.refl _ _) o)
theorem AtSn.new (w : World) (X : Sn) : AtSn (w.alloc (.cells #[.float .f32 X.d, .float .f32 X.r, .float .f32 X.b, .float .f32 X.g] 42)) w.heap.size X := heap_alloc_new w _
theorem AtSn.cells {w : World} {q : Nat} {X : Sn} (h : AtSn w q X) : w.cell? ⟨q, 0, none⟩ = some (.float .f32 X.d) ∧ w.cell? ⟨q, 1, none⟩ = some (.float .f32 X.r) ∧ w.cell? ⟨q, 2, none⟩ = some (.float .f32 X.b) ∧ w.cell? ⟨q, 3, none⟩ = some (.float .f32 X.g) :=
  ⟨cell_of_row _ _ 0 _ _ _ h, cell_of_row _ _ 1 _ _ _ h, cell_of_row _ _ 2 _ _ _ h, cell_of_row _ _ 3 _ _ _ h⟩
def AtLSn (w : World) (q : Nat) (X : Sn) : Prop := w.heap[q]? = some (.cells #[.float .f32 X.d, .float .f32 X.r, .float .f32 X.b, .float .f32 X.g] 40 (0, 0))
theorem AtLSn.lt {w : World} {q : Nat} {X : Sn} (h : AtLSn w q X) : q < w.heap.size := by
  rcases Nat.lt_or_ge q w.heap.size with hlt | hge
  · exact hlt
  · unfold AtLSn at h; rw [Array.getElem?_eq_none hge] at h; cases h
theorem AtLSn.on {w W w' : World} {q : Nat} {X : Sn} (h : AtLSn w q X) (hW : W.heap = w.heap) (b : Below W.heap.size W w') : AtLSn w' q X := (b.block q (by rw [hW]; exact h.lt)).trans (by rw [hW]; exact h)
theorem AtLSn.under {w w' : World} {q B : Nat} {X : Sn} (h : AtLSn w q X) (hq : q < B) (b : Below B w w') : AtLSn w' q X := (b.block q hq).trans h
theorem AtLSn.same {w W : World} {q : Nat} {X : Sn} (h : AtLSn w q X) (hW : W.heap = w.heap) : AtLSn W q X := by unfold AtLSn; rw [hW]; exact h
theorem AtLSn.push {w : World} {q : Nat} {X : Sn} (h : AtLSn w q X) (o : Obj) : AtLSn (w.alloc o) q X := h.on (W := w) rfl (b_alloc (Below.refl _ _) o)
theorem AtLSn.new (w : World) (X : Sn) : AtLSn (w.alloc (.cells #[.float .f32 X.d, .float .f32 X.r, .float .f32 X.b, .float .f32 X.g] 40)) w.heap.size X := heap_alloc_new w _
theorem AtLSn.cells {w : World} {q : Nat} {X : Sn} (h : AtLSn w q X) : w.cell? ⟨q, 0, none⟩ = some (.float .f32 X.d) ∧ w.cell? ⟨q, 1, none⟩ = some (.float .f32 X.r) ∧ w.cell? ⟨q, 2, none⟩ = some (.float .f32 X.b) ∧ w.cell? ⟨q, 3, none⟩ = some (.float .f32 X.g) :=
  ⟨cell_of_row _ _ 0 _ _ _ h, cell_of_row _ _ 1 _ _ _ h, cell_of_row _ _ 2 _ _ _ h, cell_of_row _ _ 3 _ _ _ h⟩
theorem toSn_any (X : Sn) (w : World) : Calls Try.prog 19 #[.agg #[.float .f32 X.d, .float .f32 X.r, .float .f32 X.b, .float .f32 X.g]] w (RV (.agg #[.float .f32 X.d, .float .f32 X.r, .float .f32 X.b, .float .f32 X.g]) w) := by
  go_enter Try.func19, Try.ntmps19
  go_wp2
  refine bodyPost_ret (v := .agg #[.float .f32 X.d, .float .f32 X.r, .float .f32 X.b, .float .f32 X.g]) (by simp [results, Try.results19, go_sem]) rfl ⟨rfl, ?_⟩
  (repeat (first | exact Below.refl _ _ | refine b_drewN ?_ _ | refine b_drew ?_ | refine b_alloc ?_ _ | refine b_then ?_ (by assumption)))
end Go.Proofs.Ytjkgiknklkfipaa