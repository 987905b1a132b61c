/-
  Walks of the laws on validity.
-/
import Derived.Test.YtajifkbpjabciaaWv
import Derived.Deep.RegionLaw
namespace Go.Proofs.Ytajifkbpjabciaa
open Go.RowKit Go.ChangeShapes Go.WideShapes Go.Deep
attribute [local go_sem ↓] Go.wp_at_zero Go.wp_at_succ
set_option linter.unusedVariables false
set_option linter.unusedSimpArgs false
theorem toMl_ex (X : Ml) (w : World) : Calls Try.prog 11 #[.agg #[.int .i16 X.b, .float .f32 X.h, .float .f32 X.r]] w fun e w' => e = .returned (.agg #[.int .i16 X.b, .float .f32 X.h, .float .f32 X.r]) ∧ ∃ A B C, w' = ((w.alloc A).alloc B).alloc C := by
  go_enter Try.func11, Try.ntmps11
  go_wp2
  refine bodyPost_ret (v := .agg #[.int .i16 X.b, .float .f32 X.h, .float .f32 X.r]) (by simp [results, Try.results11, go_sem]) rfl ⟨rfl, ?_⟩
  exact ⟨_, _, _, rfl⟩
theorem toGv_any (G : Gv) (w : World) : Calls Try.prog 14 #[.agg #[.int .i16 G.mb, .float .f32 G.mh, .float .f32 G.mr, .float .f32 G.ar, .float .f32 G.he, .float .f32 G.lo, .float .f32 G.hi, .float .f32 G.ine]] w (RV (.agg #[.int .i16 G.mb, .float .f32 G.mh, .float .f32 G.mr, .float .f32 G.ar, .float .f32 G.he, .float .f32 G.lo, .float .f32 G.hi, .float .f32 G.ine]) w) := by
  go_enter Try.func14, Try.ntmps14
  go_wp2_with fail
  refine (toMl_ex (millOf G) _).mono ?_
  rintro e w1 ⟨rfl, A, B, C, rfl⟩
  go_wp2_with fail
  refine bodyPost_ret (v := .agg #[.int .i16 G.mb, .float .f32 G.mh, .float .f32 G.mr, .float .f32 G.ar, .float .f32 G.he, .float .f32 G.lo, .float .f32 G.hi, .float .f32 G.ine]) (by simp [results, Try.results14, go_sem, millOf]) rfl ⟨rfl, ?_⟩
  (repeat (first | exact Below.refl _ _ | refine b_drewN ?_ _ | refine b_drew ?_ | refine b_alloc ?_ _ | refine b_then ?_ (by assumption)))
-- laws by program
theorem spec_ValidMill_any (X : Ml) (wX : (Lit.int .i16 X.b).wf = true) (w : World) : Calls Try.prog 10 #[.agg #[.int .i16 X.b, .float .f32 X.h, .float .f32 X.r]] w (RV (.bool (okM X)) w) := by
  go_enter Try.func10, Try.ntmps10
  go_wp2_with (go_at_call 22; refine (l03Mill_any X wX _).mono ?_; rintro e w1 ⟨rfl, b1⟩)
  go_ret
  refine ⟨rfl, ?_⟩
  (repeat (first | exact Below.refl _ _ | refine b_drewN ?_ _ | refine b_drew ?_ | refine b_alloc ?_ _ | refine b_then ?_ (by assumption)))
theorem spec_ValidState_any (X : Se) (wX : (Lit.int .i8 X.g).wf = true) (w : World) : Calls Try.prog 16 #[.agg #[.float .f32 X.s, .int .i8 X.g]] w (RV (.bool (stB X)) w) := by
  go_enter Try.func16, Try.ntmps16
  go_wp2_with (go_at_call 24; refine (l03State_any X wX _).mono ?_; rintro e w1 ⟨rfl, b1⟩)
  go_ret
  refine ⟨rfl, ?_⟩
  (repeat (first | exact Below.refl _ _ | refine b_drewN ?_ _ | refine b_drew ?_ | refine b_alloc ?_ _ | refine b_then ?_ (by assumption)))
theorem spec_ValidGovernor_any (X : Gv) (wX : (Lit.int .i16 X.mb).wf = true) (w : World) : Calls Try.prog 13 #[.agg #[.int .i16 X.mb, .float .f32 X.mh, .float .f32 X.mr, .float .f32 X.ar, .float .f32 X.he, .float .f32 X.lo, .float .f32 X.hi, .float .f32 X.ine]] w (RV (.bool (okG X)) w) := by
  go_enter Try.func13, Try.ntmps13
  go_wp2_with (go_at_call 23; refine (l03Ok_any X wX _).mono ?_; rintro e w1 ⟨rfl, b1⟩)
  go_ret
  refine ⟨rfl, ?_⟩
  (repeat (first | exact Below.refl _ _ | refine b_drewN ?_ _ | refine b_drew ?_ | refine b_alloc ?_ _ | refine b_then ?_ (by assumption)))
set_option maxRecDepth 100000 in
theorem walk_FnExactValidMill (X : Ml) (wX : (Lit.int .i16 X.b).wf = true ∧ (Lit.float .f32 X.h).wf = true ∧ (Lit.float .f32 X.r).wf = true) (w : World) :
    Calls Try.prog 4 #[.agg #[.int .i16 X.b, .float .f32 X.h, .float .f32 X.r]] w fun e w' => e = .returned (.bool true) ∧ Below w.heap.size w w' := by
  go_enter Try.func4, Try.ntmps4
  go_wp2_with fail
  refine (toMl_any X _).mono ?_
  rintro e w0 ⟨rfl, b0⟩
  have l0 := AtLMl.on (AtLMl.new w X) (by rfl) b0
  have B0 : Hid (Below w.heap.size w w0) := b_then (b_alloc (Below.refl _ _) _) b0
  clear b0
  go_wp2_with fail
  refine (spec_ValidMill_any X wX.1 _).mono ?_
  rintro e w1 ⟨rfl, b1⟩
  have B1 : Hid (Below w.heap.size w w1) := b_then B0.out b1
  have l1 := AtLMl.on l0 (by rfl) b1
  clear b1
  obtain ⟨c0, c1, c2⟩ := l1.cells
  clear l0 l1
  go_wp2_with fail
  refine (toMl_any X _).mono ?_
  rintro e w2 ⟨rfl, b2⟩
  have B2 : Hid (Below w.heap.size w w2) := b_then B1.out b2
  clear b2
  go_wp2_with fail
  refine (validMill_any X _).mono ?_
  rintro e w3 ⟨rfl, b3⟩
  have B3 : Hid (Below w.heap.size w w3) := b_then B2.out b3
  clear b3
  go_wp2
  go_ret
  exact ⟨rfl, B3.out⟩
set_option maxRecDepth 100000 in
theorem walk_FnExactValidState (X : Se) (wX : (Lit.float .f32 X.s).wf = true ∧ (Lit.int .i8 X.g).wf = true) (w : World) :
    Calls Try.prog 6 #[.agg #[.float .f32 X.s, .int .i8 X.g]] w fun e w' => e = .returned (.bool true) ∧ Below w.heap.size w w' := by
  go_enter Try.func6, Try.ntmps6
  go_wp2_with fail
  refine (toSe_any X _).mono ?_
  rintro e w0 ⟨rfl, b0⟩
  have l0 := AtLSe.on (AtLSe.new w X) (by rfl) b0
  have B0 : Hid (Below w.heap.size w w0) := b_then (b_alloc (Below.refl _ _) _) b0
  clear b0
  go_wp2_with fail
  refine (spec_ValidState_any X wX.2 _).mono ?_
  rintro e w1 ⟨rfl, b1⟩
  have B1 : Hid (Below w.heap.size w w1) := b_then B0.out b1
  have l1 := AtLSe.on l0 (by rfl) b1
  clear b1
  obtain ⟨c0, c1⟩ := l1.cells
  clear l0 l1
  go_wp2_with fail
  refine (toSe_any X _).mono ?_
  rintro e w2 ⟨rfl, b2⟩
  have B2 : Hid (Below w.heap.size w w2) := b_then B1.out b2
  clear b2
  go_wp2_with fail
  refine (validState_any X wX.2 _).mono ?_
  rintro e w3 ⟨rfl, b3⟩
  have B3 : Hid (Below w.heap.size w w3) := b_then B2.out b3
  clear b3
  go_wp2
  go_ret
  exact ⟨rfl, B3.out⟩
set_option maxRecDepth 100000 in
theorem walk_FnExactValidGovernor (X : Gv) (wX : (Lit.int .i16 X.mb).wf = true ∧ (Lit.float .f32 X.mh).wf = true ∧ (Lit.float .f32 X.mr).wf = true ∧ (Lit.float .f32 X.ar).wf = true ∧ (Lit.float .f32 X.he).wf = true ∧ (Lit.float .f32 X.lo).wf = true ∧ (Lit.float .f32 X.hi).wf = true ∧ (Lit.float .f32 X.ine).wf = true) (w : World) :
    Calls Try.prog 5 #[.agg #[.int .i16 X.mb, .float .f32 X.mh, .float .f32 X.mr, .float .f32 X.ar, .float .f32 X.he, .float .f32 X.lo, .float .f32 X.hi, .float .f32 X.ine]] w fun e w' => e = .returned (.bool true) ∧ Below w.heap.size w w' := by
  go_enter Try.func5, Try.ntmps5
  go_wp2_with fail
  refine (toGv_any X _).mono ?_
  rintro e w0 ⟨rfl, b0⟩
  have l0 := AtLGv.on (AtLGv.new w X) (by rfl) b0
  have B0 : Hid (Below w.heap.size w w0) := b_then (b_alloc (Below.refl _ _) _) b0
  clear b0
  go_wp2_with fail
  refine (spec_ValidGovernor_any X wX.1 _).mono ?_
  rintro e w1 ⟨rfl, b1⟩
  have B1 : Hid (Below w.heap.size w w1) := b_then B0.out b1
  have l1 := AtLGv.on l0 (by rfl) b1
  clear b1
  obtain ⟨c0, c1, c2, c3, c4, c5, c6, c7⟩ := l1.cells
  clear l0 l1
  go_wp2_with fail
  refine (toGv_any X _).mono ?_
  rintro e w2 ⟨rfl, b2⟩
  have B2 : Hid (Below w.heap.size w w2) := b_then B1.out b2
  clear b2
  go_wp2_with fail
  refine (validGov_any X _).mono ?_
  rintro e w3 ⟨rfl, b3⟩
  have B3 : Hid (Below w.heap.size w w3) := b_then B2.out b3
  clear b3
  go_wp2
  go_ret
  exact ⟨rfl, B3.out⟩
theorem spec_IsLength_any (m : Nat) (w : World) : Calls Try.prog 8 #[.float .f32 m] w fun e w' => e = .returned (.bool (radB m)) ∧ w = w' := by
  go_enter Try.func8, Try.ntmps8
  go_wp2_with (go_at_call 21; refine (l03Length_any _ _).mono ?_; rintro e w1 ⟨rfl, rfl⟩)
  go_ret
  exact ⟨rfl, rfl⟩
theorem walk_FnExactIsLength (a : Nat) (wa : (Lit.float .f32 a).wf = true) (w : World) :
    Calls Try.prog 3 #[.float .f32 a] w fun e w' => e = .returned (.bool true) ∧ Below w.heap.size w w' := by
  go_enter Try.func3, Try.ntmps3
  go_wp2_with (first | (go_at_call 8; refine (spec_IsLength_any _ _).mono ?_; rintro e w1 ⟨rfl, rfl⟩) | (go_at_call 9; refine (isLength_any _ _).mono ?_; rintro e w1 ⟨rfl, rfl⟩))
  go_ret
  exact ⟨rfl, Below.refl _ _⟩
end Go.Proofs.Ytajifkbpjabciaa
