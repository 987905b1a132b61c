/-
  A belt of the laws that came in by value: its words.
-/
import Derived.Test.YtolbacgfcobmdaaOps
import Derived.ChangeArms
import Derived.Deep.Slices
import Derived.Lib.SmallJoins
namespace Go.Proofs.Ytolbacgfcobmdaa
open Go.RowKit Go.ChangeShapes Go.WideShapes Go.Deep Go.Joins
set_option linter.unusedVariables false
section
variable {H : Type} {enc : TypeId × Value → H} {w : World} {base : Nat} {spare : Nat → Bool} {held : Bool}
theorem trod_f32b {P : Program} {t : TypeId} {fuel : Nat} {cs : List Value} {x : DataW H × List MemPlace} (ht : P.underlying t = some (.float .f32)) (h : DataW.trod enc P w base spare held fuel t cs = some x) :
    ∃ b, cs = [.float .f32 b] ∧ (Lit.float .f32 b).wf = true := by
  cases fuel with
  | zero => simp [DataW.trod] at h
  | succ n =>
    unfold DataW.trod at h
    rw [ht] at h
    split at h <;> simp_all
theorem trod_bool1 {P : Program} {t : TypeId} {fuel : Nat} {cs : List Value} {x : DataW H × List MemPlace} (ht : P.underlying t = some .bool) (h : DataW.trod enc P w base spare held fuel t cs = some x) :
    ∃ b, cs = [.bool b] := by
  cases fuel with
  | zero => simp [DataW.trod] at h
  | succ n =>
    unfold DataW.trod at h
    rw [ht] at h
    split at h <;> simp_all
theorem five_of {α : Type} {l : List α} (h : l.length = 5) : ∃ a b c d e, l = [a, b, c, d, e] := by
  match l, h with
  | [a, b, c, d, e], _ => exact ⟨a, b, c, d, e, rfl⟩
theorem belt_cells {fuel : Nat} {cs : List Value} {x : DataW H × List MemPlace} (h : DataW.trod enc Try.prog w base spare held fuel 42 cs = some x) :
    ∃ B : Bl, cs = [.float .f32 B.a, .float .f32 B.b, .float .f32 B.ap, .float .f32 B.g, .bool B.x] := by
  obtain ⟨xs, n, _, _, hlen, hxl, hf⟩ := DataW.trod_struct Try.underlying42 h
  have hC : Try.prog.cellsOf 42 = 5 := by kernel_rfl
  have c1 : Try.prog.cellsOf 4 = 1 := by kernel_rfl
  have c2 : Try.prog.cellsOf 24 = 1 := by kernel_rfl
  rw [hC] at hlen
  obtain ⟨v0, v1, v2, v3, v4, rfl⟩ := five_of hlen
  obtain ⟨y0, y1, y2, y3, y4, rfl⟩ := five_of (show xs.length = 5 from hxl)
  have f0 : DataW.trod enc Try.prog w base spare held n 24 (([v0, v1, v2, v3, v4].drop 0).take (Try.prog.cellsOf 24)) = some y0 := hf 0 _ rfl
  have f1 : DataW.trod enc Try.prog w base spare held n 24 (([v0, v1, v2, v3, v4].drop 1).take (Try.prog.cellsOf 24)) = some y1 := hf 1 _ rfl
  have f2 : DataW.trod enc Try.prog w base spare held n 24 (([v0, v1, v2, v3, v4].drop 2).take (Try.prog.cellsOf 24)) = some y2 := hf 2 _ rfl
  have f3 : DataW.trod enc Try.prog w base spare held n 24 (([v0, v1, v2, v3, v4].drop 3).take (Try.prog.cellsOf 24)) = some y3 := hf 3 _ rfl
  have f4 : DataW.trod enc Try.prog w base spare held n 4 (([v0, v1, v2, v3, v4].drop 4).take (Try.prog.cellsOf 4)) = some y4 := hf 4 _ rfl
  rw [c2] at f0 f1 f2 f3
  rw [c1] at f4
  obtain ⟨a, e0, _⟩ := trod_f32b Try.underlying24 f0
  obtain ⟨b, e1, _⟩ := trod_f32b Try.underlying24 f1
  obtain ⟨ap, e2, _⟩ := trod_f32b Try.underlying24 f2
  obtain ⟨g, e3, _⟩ := trod_f32b Try.underlying24 f3
  obtain ⟨x, e4⟩ := trod_bool1 Try.underlying4 f4
  obtain rfl : v0 = .float .f32 a := List.head_eq_of_cons_eq e0
  obtain rfl : v1 = .float .f32 b := List.head_eq_of_cons_eq e1
  obtain rfl : v2 = .float .f32 ap := List.head_eq_of_cons_eq e2
  obtain rfl : v3 = .float .f32 g := List.head_eq_of_cons_eq e3
  obtain rfl : v4 = .bool x := List.head_eq_of_cons_eq e4
  exact ⟨⟨a, b, ap, g, x⟩, rfl⟩
theorem belt_in {r : Reach} {b0 : Nat} {v : Value} {d : DataW H} {p : List MemPlace} (hv : Value.okWide Try.prog w r b0 42 v) (h : DataW.Trod enc Try.prog w base spare held 42 v d p) :
    ∃ B : Bl, v = .agg #[.float .f32 B.a, .float .f32 B.b, .float .f32 B.ap, .float .f32 B.g, .bool B.x] := by
  obtain ⟨cs, rfl, hsz⟩ := okWide_struct Try.underlying42 hv
  obtain ⟨fuel, hf⟩ := h
  obtain ⟨B, hB⟩ := belt_cells hf
  refine ⟨B, ?_⟩
  obtain ⟨l⟩ := cs
  have : l = _ := hB
  rw [this]
end
end Go.Proofs.Ytolbacgfcobmdaa
