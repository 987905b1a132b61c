/-
  Laws: rates, valid stones.
-/
import Derived.Test.YtagjkagfnfonpaaSv
namespace Go.Proofs.Ytagjkagfnfonpaa
open Go.RowKit Go.ChangeShapes Go.WideShapes Go.Deep
attribute [local go_sem ↓] Go.wp_at_zero Go.wp_at_succ
set_option linter.unusedVariables false
set_option linter.unusedSimpArgs false
set_option maxRecDepth 100000
theorem spec_IsRate_any (m : Nat) (w : World) : Calls Try.prog 15 #[.float .f32 m] w fun e w' => e = .returned (.bool (rtB m)) ∧ w = w' := by
  go_enter Try.func15, Try.ntmps15
  go_wp2_with (go_at_call 44; refine (l04Rate_any _ _).mono ?_; rintro e w1 ⟨rfl, rfl⟩)
  go_ret
  exact ⟨rfl, rfl⟩
theorem walk_FnExactIsRate (a : Nat) (wa : (Lit.float .f32 a).wf = true) (w : World) :
    Calls Try.prog 3 #[.float .f32 a] w fun e w' => e = .returned (.bool true) ∧ Below w.heap.size w w' := by
  go_enter Try.func3, Try.ntmps3
  go_wp2_with (first | (go_at_call 15; refine (spec_IsRate_any _ _).mono ?_; rintro e w1 ⟨rfl, rfl⟩) | (go_at_call 16; refine (isRate_any _ _).mono ?_; rintro e w1 ⟨rfl, rfl⟩))
  go_ret
  exact ⟨rfl, Below.refl _ _⟩
theorem spec_ValidStone_any (X : Sn) (w : World) : Calls Try.prog 17 #[.agg #[.float .f32 X.d, .float .f32 X.r, .float .f32 X.b, .float .f32 X.g]] w (RV (.bool (okS X)) w) := by
  go_enter Try.func17, Try.ntmps17
  go_wp2_with (go_at_call 45; refine (l04Ok_any X _).mono ?_; rintro e w1 ⟨rfl, b1⟩)
  go_ret
  refine ⟨rfl, ?_⟩
  (repeat (first | exact Below.refl _ _ | refine b_drewN ?_ _ | refine b_drew ?_ | refine b_alloc ?_ _ | refine b_then ?_ (by assumption)))
set_option maxRecDepth 100000 in
theorem walk_FnExactValidStone (X : Sn) (wX : (Lit.float .f32 X.d).wf = true ∧ (Lit.float .f32 X.r).wf = true ∧ (Lit.float .f32 X.b).wf = true ∧ (Lit.float .f32 X.g).wf = true) (w : World) :
    Calls Try.prog 4 #[.agg #[.float .f32 X.d, .float .f32 X.r, .float .f32 X.b, .float .f32 X.g]] w fun e w' => e = .returned (.bool true) ∧ Below w.heap.size w w' := by
  go_enter Try.func4, Try.ntmps4
  go_wp2_with fail
  refine (toSn_any X _).mono ?_
  rintro e w0 ⟨rfl, b0⟩
  have l0 := AtLSn.on (AtLSn.new w X) (by rfl) b0
  have B0 : Hid (Below w.heap.size w w0) := b_then (b_alloc (Below.refl _ _) _) b0
  clear b0
  go_wp2_with fail
  refine (spec_ValidStone_any X _).mono ?_
  rintro e w1 ⟨rfl, b1⟩
  have B1 : Hid (Below w.heap.size w w1) := b_then B0.out b1
  have l1 := AtLSn.on l0 (by rfl) b1
  clear b1
  obtain ⟨c0, c1, c2, c3⟩ := l1.cells
  clear l0 l1
  go_wp2_with fail
  refine (toSn_any X _).mono ?_
  rintro e w2 ⟨rfl, b2⟩
  have B2 : Hid (Below w.heap.size w w2) := b_then B1.out b2
  clear b2
  go_wp2_with fail
  refine (validStone_any X _).mono ?_
  rintro e w3 ⟨rfl, b3⟩
  have B3 : Hid (Below w.heap.size w w3) := b_then B2.out b3
  clear b3
  go_wp2
  go_ret
  exact ⟨rfl, B3.out⟩
end Go.Proofs.Ytagjkagfnfonpaa
