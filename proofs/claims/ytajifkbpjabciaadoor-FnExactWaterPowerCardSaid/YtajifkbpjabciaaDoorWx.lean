/-
  Walks of laws with codes.
-/
import Derived.Test.YtajifkbpjabciaaDoorWp
namespace Go.Proofs.YtajifkbpjabciaaDoor
open Go.RowKit Go.ChangeShapes Go.WideShapes Go.Deep
attribute [local go_sem ↓] Go.wp_at_zero Go.wp_at_succ
set_option linter.unusedVariables false
set_option linter.unusedSimpArgs false
set_option maxRecDepth 100000 in
set_option maxHeartbeats 4000000 in
theorem walk_FnExactWaterPower (f : Nat) (wf : (Lit.float .f32 f).wf = true) (h : Nat) (wh : (Lit.float .f32 h).wf = true) (p : Nat) (wp : (Lit.float .f32 p).wf = true) (w : World) (Z : Sens) (hZ : SenAt w Z) :
    Calls Tryd.prog 5 #[.float .f32 f, .float .f32 h, .float .f32 p] w fun e w' => e = .returned (.bool true) ∧ Below w.heap.size w w' := by
  have HZ := Lib.hid hZ; clear hZ
  skip
  go_enter Tryd.func5, Tryd.ntmps5
  go_wp2_with fail
  refine (specWaterPower_any f h p _).mono ?_
  rintro e w1 ⟨r1, rfl, h1, b1⟩
  have H1 := Lib.hid h1; clear h1
  have B1 : Hid (Below w.heap.size w w1) := b_then (Below.refl _ _) b1
  clear b1
  have Z1 : Hid (SenAt w1 Z) := SenAt.on HZ.out (by rfl) B1.out
  go_wp2_with fail
  refine (implWaterPower_any f h p _ Z Z1.out).mono ?_
  rintro e w3 ⟨r3, rfl, h3, b3⟩
  have H3 := Lib.hid h3; clear h3
  have B3 : Hid (Below w.heap.size w w3) := b_then (B1.out) b3
  clear b3
  rcases cnx (H3.out.trans H1.out.symm) with ⟨hn2, hn1⟩ | ⟨hnn, he12⟩
  · have q1 := fun w => run_nan_wide (P := Tryd.prog) w 22 26 r1 (by rw [Tryd.underlying22]; rfl) Tryd.underlying26 hn1
    have q2 := fun w => run_nan_wide (P := Tryd.prog) w 22 26 r3 (by rw [Tryd.underlying22]; rfl) Tryd.underlying26 hn2
    clear hn1 hn2
    go_wp2_with (go_at_call 12; refine (sf_nan _ _ _ (nanTo_nan _ _) (nanTo_nan _ _)).mono ?_; rintro e w' ⟨rfl, rfl⟩)
    go_ret
    exact ⟨rfl, by first | exact B3.out.drew.drew | exact b_drewN B3.out _⟩
  · subst he12
    have q1 := fun w => run_wide (P := Tryd.prog) w 22 26 r3 (by rw [Tryd.underlying22]; rfl) Tryd.underlying26 hnn
    have q3 := (wide_some hnn).2
    clear hnn
    go_wp2_with (go_at_call 12; refine (sf_eq _ _ q3).mono ?_; rintro e w' ⟨rfl, rfl⟩)
    go_ret
    exact ⟨rfl, B3.out⟩
end Go.Proofs.YtajifkbpjabciaaDoor
