/-
  The line that bytes stand for.
-/
import Derived.Test.YtaodpopghacmaaaDoorDsb
namespace Go.Proofs.YtaodpopghacmaaaDoor
open Go.RowKit Go.ChangeShapes Go.WideShapes Go.Deep Go.Joins
attribute [local go_sem ↓] Go.wp_at_zero Go.wp_at_succ
set_option linter.unusedVariables false
set_option linter.unusedSimpArgs false
set_option maxRecDepth 100000
/-- A valid line of 2 to 5 discs, of its own; all else keeps. -/
def RLn (w : World) (e : Ending) (w' : World) : Prop := ∃ A c ds, e = .returned (.slice A ds.length c) ∧ Dc.L w' w'.heap.size A ds ∧ 2 ≤ ds.length ∧ ds.length ≤ 5 ∧ okLine ds = true ∧ (∀ d ∈ ds, d.wf) ∧ Below w.heap.size w w'
theorem line_any {w : World} {A : Option Addr} {n c : Nat} {zs : List Int} (h : ByIn w A n c zs) : Calls Tryd.prog 5 #[.slice A n c] w (RLn w) := by
  have H := Lib.hid h; clear h
  go_enter Tryd.func5, Tryd.ntmps5
  go_wp2_with (first
    | (go_at_call 17; refine (from_any H.out).mono ?_; rintro e w1 ⟨rfl, s1, b1, hq⟩; have S1 := Lib.hid s1; have B1 := Lib.hid b1; clear s1 b1)
    | (go_at_call 16; refine (discs_any S1.out).mono ?_; rintro e w2 ⟨v, ds, rfl, o2, h2, h5, hd, k2⟩; have O2 := Lib.hid o2; have D2 := Lib.hid hd; have K2 := Lib.hid k2; clear o2 hd k2))
  go_ret
  obtain ⟨A', c', rfl, hl, hL, _⟩ := dc_of_row O2.out
  refine ⟨A', c', ds, rfl, hL, h2, h5, ?_, fun d hd => (D2.out d hd).2, B1.out.trans (K2.out.below (Nat.le_refl _) B1.out.size)⟩
  unfold okLine fewD allD
  simp only [Bool.and_eq_true, decide_eq_true_eq, List.all_eq_true]
  exact ⟨⟨h2, by omega⟩, fun d hd => (D2.out d hd).1⟩
end Go.Proofs.YtaodpopghacmaaaDoor
