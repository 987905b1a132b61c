/-
  A belt of the laws that came in by value: its words.
-/
import Derived.Test.YtkkcihgnpephiaaDoorOps
import Derived.ChangeArms
import Derived.Deep.Slices
import Derived.Lib.SmallJoins
namespace Go.Proofs.YtkkcihgnpephiaaDoor
open Go.RowKit Go.ChangeShapes Go.WideShapes Go.Deep Go.Joins
set_option linter.unusedVariables false
set_option maxRecDepth 100000
section
variable {H : Type} {enc : TypeId × Value → H} {w : World} {base : Nat} {spare : Nat → Bool} {held : Bool}
theorem trod_f32bw {P : Program} {t : TypeId} {fuel : Nat} {cs : List Value} {x : DataW H × List MemPlace} (ht : P.underlying t = some (.float .f32)) (h : DataW.trod enc P w base spare held fuel t cs = some x) :
    ∃ b, cs = [.float .f32 b] ∧ (Lit.float .f32 b).wf = true := by
  cases fuel with
  | zero => simp [DataW.trod] at h
  | succ n =>
    unfold DataW.trod at h
    rw [ht] at h
    split at h <;> simp_all
theorem trod_bool1w {P : Program} {t : TypeId} {fuel : Nat} {cs : List Value} {x : DataW H × List MemPlace} (ht : P.underlying t = some .bool) (h : DataW.trod enc P w base spare held fuel t cs = some x) :
    ∃ b, cs = [.bool b] := by
  cases fuel with
  | zero => simp [DataW.trod] at h
  | succ n =>
    unfold DataW.trod at h
    rw [ht] at h
    split at h <;> simp_all
theorem five_ofw {α : Type} {l : List α} (h : l.length = 5) : ∃ a b c d e, l = [a, b, c, d, e] := by
  match l, h with
  | [a, b, c, d, e], _ => exact ⟨a, b, c, d, e, rfl⟩
theorem belt_cellsw {fuel : Nat} {cs : List Value} {x : DataW H × List MemPlace} (h : DataW.trod enc Tryd.prog w base spare held fuel 42 cs = some x) :
    ∃ B : Bl, cs = [.float .f32 B.a, .float .f32 B.b, .float .f32 B.ap, .float .f32 B.g, .bool B.x] ∧ (Lit.float .f32 B.a).wf = true ∧ (Lit.float .f32 B.b).wf = true ∧ (Lit.float .f32 B.ap).wf = true ∧ (Lit.float .f32 B.g).wf = true := by
  obtain ⟨xs, n, _, _, hlen, hxl, hf⟩ := DataW.trod_struct Tryd.underlying42 h
  have hC : Tryd.prog.cellsOf 42 = 5 := by kernel_rfl
  have c1 : Tryd.prog.cellsOf 4 = 1 := by kernel_rfl
  have c2 : Tryd.prog.cellsOf 22 = 1 := by kernel_rfl
  rw [hC] at hlen
  obtain ⟨v0, v1, v2, v3, v4, rfl⟩ := five_ofw hlen
  obtain ⟨y0, y1, y2, y3, y4, rfl⟩ := five_ofw (show xs.length = 5 from hxl)
  have f0 : DataW.trod enc Tryd.prog w base spare held n 22 (([v0, v1, v2, v3, v4].drop 0).take (Tryd.prog.cellsOf 22)) = some y0 := hf 0 _ rfl
  have f1 : DataW.trod enc Tryd.prog w base spare held n 22 (([v0, v1, v2, v3, v4].drop 1).take (Tryd.prog.cellsOf 22)) = some y1 := hf 1 _ rfl
  have f2 : DataW.trod enc Tryd.prog w base spare held n 22 (([v0, v1, v2, v3, v4].drop 2).take (Tryd.prog.cellsOf 22)) = some y2 := hf 2 _ rfl
  have f3 : DataW.trod enc Tryd.prog w base spare held n 22 (([v0, v1, v2, v3, v4].drop 3).take (Tryd.prog.cellsOf 22)) = some y3 := hf 3 _ rfl
  have f4 : DataW.trod enc Tryd.prog w base spare held n 4 (([v0, v1, v2, v3, v4].drop 4).take (Tryd.prog.cellsOf 4)) = some y4 := hf 4 _ rfl
  rw [c2] at f0 f1 f2 f3
  rw [c1] at f4
  obtain ⟨a, e0, q0⟩ := trod_f32bw Tryd.underlying22 f0
  obtain ⟨b, e1, q1⟩ := trod_f32bw Tryd.underlying22 f1
  obtain ⟨ap, e2, q2⟩ := trod_f32bw Tryd.underlying22 f2
  obtain ⟨g, e3, q3⟩ := trod_f32bw Tryd.underlying22 f3
  obtain ⟨x, e4⟩ := trod_bool1w Tryd.underlying4 f4
  obtain rfl : v0 = .float .f32 a := List.head_eq_of_cons_eq e0
  obtain rfl : v1 = .float .f32 b := List.head_eq_of_cons_eq e1
  obtain rfl : v2 = .float .f32 ap := List.head_eq_of_cons_eq e2
  obtain rfl : v3 = .float .f32 g := List.head_eq_of_cons_eq e3
  obtain rfl : v4 = .bool x := List.head_eq_of_cons_eq e4
  exact ⟨⟨a, b, ap, g, x⟩, rfl, ⟨q0, q1, q2, q3⟩⟩
theorem belt_inw {r : Reach} {b0 : Nat} {v : Value} {d : DataW H} {p : List MemPlace} (hv : Value.okWide Tryd.prog w r b0 42 v) (h : DataW.Trod enc Tryd.prog w base spare held 42 v d p) :
    ∃ B : Bl, v = .agg #[.float .f32 B.a, .float .f32 B.b, .float .f32 B.ap, .float .f32 B.g, .bool B.x] ∧ (Lit.float .f32 B.a).wf = true ∧ (Lit.float .f32 B.b).wf = true ∧ (Lit.float .f32 B.ap).wf = true ∧ (Lit.float .f32 B.g).wf = true := by
  obtain ⟨cs, rfl, hsz⟩ := okWide_struct Tryd.underlying42 hv
  obtain ⟨fuel, hf⟩ := h
  obtain ⟨B, hB, hw⟩ := belt_cellsw hf
  refine ⟨B, ?_, hw⟩
  obtain ⟨l⟩ := cs
  have : l = _ := hB
  rw [this]
end
end Go.Proofs.YtkkcihgnpephiaaDoor
