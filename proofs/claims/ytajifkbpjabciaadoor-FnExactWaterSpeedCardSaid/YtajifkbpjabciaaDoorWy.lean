/-
  Walks of laws with codes: the speed of water, the flow.
-/
import Derived.Test.YtajifkbpjabciaaDoorFlow
namespace Go.Proofs.YtajifkbpjabciaaDoor
open Go.RowKit Go.ChangeShapes Go.WideShapes Go.Deep
attribute [local go_sem ↓] Go.wp_at_zero Go.wp_at_succ
set_option linter.unusedVariables false
set_option linter.unusedSimpArgs false
set_option maxRecDepth 100000 in
set_option maxHeartbeats 4000000 in
theorem walk_FnExactWaterSpeed (h : Nat) (wh : (Lit.float .f32 h).wf = true) (w : World) (Z : Sens) (hZ : SenAt w Z) :
    Calls Tryd.prog 3 #[.float .f32 h] w fun e w' => e = .returned (.bool true) ∧ Below w.heap.size w w' := by
  have HZ := Lib.hid hZ; clear hZ
  skip
  go_enter Tryd.func3, Tryd.ntmps3
  go_wp2_with fail
  refine (specWaterSpeed_any h _).mono ?_
  rintro e w1 ⟨r1, rfl, h1, b1⟩
  have H1 := Lib.hid h1; clear h1
  have B1 : Hid (Below w.heap.size w w1) := b_then (Below.refl _ _) b1
  clear b1
  have Z1 : Hid (SenAt w1 Z) := SenAt.on HZ.out (by rfl) B1.out
  go_wp2_with fail
  refine (implWaterSpeed_any h _ Z Z1.out).mono ?_
  rintro e w3 ⟨r3, rfl, h3, b3⟩
  have H3 := Lib.hid h3; clear h3
  have B3 : Hid (Below w.heap.size w w3) := b_then (B1.out) b3
  clear b3
  rcases cnx (H3.out.trans H1.out.symm) with ⟨hn2, hn1⟩ | ⟨hnn, he12⟩
  · have q1 := fun w => run_nan_wide (P := Tryd.prog) w 22 26 r1 (by rw [Tryd.underlying22]; rfl) Tryd.underlying26 hn1
    have q2 := fun w => run_nan_wide (P := Tryd.prog) w 22 26 r3 (by rw [Tryd.underlying22]; rfl) Tryd.underlying26 hn2
    clear hn1 hn2
    go_wp2_with (go_at_call 12; refine (sf_nan _ _ _ (nanTo_nan _ _) (nanTo_nan _ _)).mono ?_; rintro e w' ⟨rfl, rfl⟩)
    go_ret
    exact ⟨rfl, by first | exact B3.out.drew.drew | exact b_drewN B3.out _⟩
  · subst he12
    have q1 := fun w => run_wide (P := Tryd.prog) w 22 26 r3 (by rw [Tryd.underlying22]; rfl) Tryd.underlying26 hnn
    have q3 := (wide_some hnn).2
    clear hnn
    go_wp2_with (go_at_call 12; refine (sf_eq _ _ q3).mono ?_; rintro e w' ⟨rfl, rfl⟩)
    go_ret
    exact ⟨rfl, B3.out⟩
set_option maxRecDepth 100000 in
set_option maxHeartbeats 4000000 in
theorem walk_FnExactFlowThrough (ar : Nat) (war : (Lit.float .f32 ar).wf = true) (he : Nat) (whe : (Lit.float .f32 he).wf = true) (g : Int) (wg : (Lit.int .i64 g).wf = true) (w : World) (Z : Sens) (hZ : SenAt w Z) :
    Calls Tryd.prog 4 #[.float .f32 ar, .float .f32 he, .int .i64 g] w fun e w' => e = .returned (.bool true) ∧ Below w.heap.size w w' := by
  have HZ := Lib.hid hZ; clear hZ
  skip
  go_enter Tryd.func4, Tryd.ntmps4
  go_wp2_with fail
  refine (specFlowThrough_any ar he g _).mono ?_
  rintro e w1 ⟨r1, rfl, h1, b1⟩
  have H1 := Lib.hid h1; clear h1
  have B1 : Hid (Below w.heap.size w w1) := b_then (Below.refl _ _) b1
  clear b1
  have Z1 : Hid (SenAt w1 Z) := SenAt.on HZ.out (by rfl) B1.out
  go_wp2_with fail
  refine (implFlowThrough_any ar he g _ Z Z1.out).mono ?_
  rintro e w3 ⟨r3, rfl, h3, b3⟩
  have H3 := Lib.hid h3; clear h3
  have B3 : Hid (Below w.heap.size w w3) := b_then (B1.out) b3
  clear b3
  rcases cnx (H3.out.trans H1.out.symm) with ⟨hn2, hn1⟩ | ⟨hnn, he12⟩
  · have q1 := fun w => run_nan_wide (P := Tryd.prog) w 22 26 r1 (by rw [Tryd.underlying22]; rfl) Tryd.underlying26 hn1
    have q2 := fun w => run_nan_wide (P := Tryd.prog) w 22 26 r3 (by rw [Tryd.underlying22]; rfl) Tryd.underlying26 hn2
    clear hn1 hn2
    go_wp2_with (go_at_call 12; refine (sf_nan _ _ _ (nanTo_nan _ _) (nanTo_nan _ _)).mono ?_; rintro e w' ⟨rfl, rfl⟩)
    go_ret
    exact ⟨rfl, by first | exact B3.out.drew.drew | exact b_drewN B3.out _⟩
  · subst he12
    have q1 := fun w => run_wide (P := Tryd.prog) w 22 26 r3 (by rw [Tryd.underlying22]; rfl) Tryd.underlying26 hnn
    have q3 := (wide_some hnn).2
    clear hnn
    go_wp2_with (go_at_call 12; refine (sf_eq _ _ q3).mono ?_; rintro e w' ⟨rfl, rfl⟩)
    go_ret
    exact ⟨rfl, B3.out⟩
end Go.Proofs.YtajifkbpjabciaaDoor
