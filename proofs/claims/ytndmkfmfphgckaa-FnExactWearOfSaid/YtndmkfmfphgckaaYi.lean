/-
  The walks of laws over one tooth.
-/
import Derived.Test.YtndmkfmfphgckaaYh
import Derived.Test.YtndmkfmfphgckaaYg
namespace Go.Proofs.Ytndmkfmfphgckaa
open Go.RowKit Go.ChangeShapes Go.WideShapes Go.Deep
attribute [local go_sem ↓] Go.wp_at_zero Go.wp_at_succ
set_option linter.unusedVariables false
set_option linter.unusedSimpArgs false
set_option maxRecDepth 100000

set_option maxRecDepth 100000 in
set_option maxHeartbeats 4000000 in
theorem walk_FnExactWornBy (X : Th) (wX : (Lit.float .f32 X.h).wf = true ∧ (Lit.float .f32 X.u).wf = true ∧ (Lit.float .f32 X.v).wf = true ∧ (Lit.int .i8 X.s).wf = true) (l : Nat) (wl : (Lit.float .f32 l).wf = true) (w : World) :
    Calls Try.prog 6 #[.agg #[.float .f32 X.h, .float .f32 X.u, .float .f32 X.v, .int .i8 X.s], .float .f32 l] w fun e w' => e = .returned (.bool true) ∧ Below w.heap.size w w' := by
  go_enter Try.func6, Try.ntmps6
  go_wp2_with fail
  refine (toTh_any X _).mono ?_
  rintro e w0 ⟨rfl, b0⟩
  have l0 := AtLTh.on (AtLTh.new w X) (by rfl) b0
  have B0 : Hid (Below w.heap.size w w0) := b_then (b_alloc (Below.refl _ _) _) b0
  clear b0
  go_wp2_with fail
  refine (specWornBy_any X l wX.2.2.2 _).mono ?_
  rintro e w1 ⟨T1, rfl, t1, b1⟩
  have l1 := AtLTh.on l0 (by rfl) b1
  have B1 : Hid (Below w.heap.size w w1) := b_then B0.out b1
  have T1h := Lib.hid t1
  clear b1 l0 t1
  obtain ⟨c0, c1, c2, c3⟩ := l1.cells
  have hs1 : w.heap.size < w1.heap.size := l1.lt
  clear l1
  go_wp2_with fail
  have j2 := AtTh.new w1 T1
  refine (toTh_any X _).mono ?_
  rintro e w2 ⟨rfl, b2⟩
  have k2 := AtTh.on j2 (by rfl) b2
  have B2 : Hid (Below w.heap.size w w2) := b_then (b_alloc B1.out _) b2
  clear b2 c0 c1 c2 c3 j2
  go_wp2_with fail
  refine (implWornBy_any X l _).mono ?_
  rintro e w3 ⟨T3, rfl, t3, b3⟩
  have k3 := AtTh.on k2 (by rfl) b3
  have B3 : Hid (Below w.heap.size w w3) := b_then B2.out b3
  clear b3 k2
  have E3 : Hid (cnT T3 = cnT T1) := t3.trans T1h.out.symm
  clear t3
  obtain ⟨c0, c1, c2, c3⟩ := k3.cells
  have hs3 : w1.heap.size < w3.heap.size := k3.lt
  clear k3
  go_wp2_with fail
  refine (eqTh_same T3 T1 E3.out _).mono ?_
  rintro e w4 ⟨rfl, b4⟩
  have B4 : Hid (Below w.heap.size w w4) := b_then (b_alloc B3.out _) b4
  clear b4 c0 c1 c2 c3
  go_wp2
  go_ret
  exact ⟨rfl, B4.out⟩
set_option maxRecDepth 100000 in
set_option maxHeartbeats 4000000 in
theorem walk_FnExactTurnTooth (X : Th) (wX : (Lit.float .f32 X.h).wf = true ∧ (Lit.float .f32 X.u).wf = true ∧ (Lit.float .f32 X.v).wf = true ∧ (Lit.int .i8 X.s).wf = true) (w : World) :
    Calls Try.prog 8 #[.agg #[.float .f32 X.h, .float .f32 X.u, .float .f32 X.v, .int .i8 X.s]] w fun e w' => e = .returned (.bool true) ∧ Below w.heap.size w w' := by
  go_enter Try.func8, Try.ntmps8
  go_wp2_with fail
  refine (toTh_any X _).mono ?_
  rintro e w0 ⟨rfl, b0⟩
  have l0 := AtLTh.on (AtLTh.new w X) (by rfl) b0
  have B0 : Hid (Below w.heap.size w w0) := b_then (b_alloc (Below.refl _ _) _) b0
  clear b0
  go_wp2_with fail
  refine (specTurn_any X wX.2.2.2 _).mono ?_
  rintro e w1 ⟨T1, rfl, t1, b1⟩
  have l1 := AtLTh.on l0 (by rfl) b1
  have B1 : Hid (Below w.heap.size w w1) := b_then B0.out b1
  have T1h := Lib.hid t1
  clear b1 l0 t1
  obtain ⟨c0, c1, c2, c3⟩ := l1.cells
  have hs1 : w.heap.size < w1.heap.size := l1.lt
  clear l1
  go_wp2_with fail
  have j2 := AtTh.new w1 T1
  refine (toTh_any X _).mono ?_
  rintro e w2 ⟨rfl, b2⟩
  have k2 := AtTh.on j2 (by rfl) b2
  have B2 : Hid (Below w.heap.size w w2) := b_then (b_alloc B1.out _) b2
  clear b2 c0 c1 c2 c3 j2
  go_wp2_with fail
  refine (implTurn_any X _).mono ?_
  rintro e w3 ⟨T3, rfl, t3, b3⟩
  have k3 := AtTh.on k2 (by rfl) b3
  have B3 : Hid (Below w.heap.size w w3) := b_then B2.out b3
  clear b3 k2
  have E3 : Hid (cnT T3 = cnT T1) := t3.trans T1h.out.symm
  clear t3
  obtain ⟨c0, c1, c2, c3⟩ := k3.cells
  have hs3 : w1.heap.size < w3.heap.size := k3.lt
  clear k3
  go_wp2_with fail
  refine (eqTh_same T3 T1 E3.out _).mono ?_
  rintro e w4 ⟨rfl, b4⟩
  have B4 : Hid (Below w.heap.size w w4) := b_then (b_alloc B3.out _) b4
  clear b4 c0 c1 c2 c3
  go_wp2
  go_ret
  exact ⟨rfl, B4.out⟩
set_option maxRecDepth 100000 in
set_option maxHeartbeats 4000000 in
theorem walk_FnExactNewTooth (X : Th) (wX : (Lit.float .f32 X.h).wf = true ∧ (Lit.float .f32 X.u).wf = true ∧ (Lit.float .f32 X.v).wf = true ∧ (Lit.int .i8 X.s).wf = true) (w : World) :
    Calls Try.prog 9 #[.agg #[.float .f32 X.h, .float .f32 X.u, .float .f32 X.v, .int .i8 X.s]] w fun e w' => e = .returned (.bool true) ∧ Below w.heap.size w w' := by
  go_enter Try.func9, Try.ntmps9
  go_wp2_with fail
  refine (toTh_any X _).mono ?_
  rintro e w0 ⟨rfl, b0⟩
  have l0 := AtLTh.on (AtLTh.new w X) (by rfl) b0
  have B0 : Hid (Below w.heap.size w w0) := b_then (b_alloc (Below.refl _ _) _) b0
  clear b0
  go_wp2_with fail
  refine (specNew_any X wX.2.2.2 _).mono ?_
  rintro e w1 ⟨T1, rfl, t1, b1⟩
  have l1 := AtLTh.on l0 (by rfl) b1
  have B1 : Hid (Below w.heap.size w w1) := b_then B0.out b1
  have T1h := Lib.hid t1
  clear b1 l0 t1
  obtain ⟨c0, c1, c2, c3⟩ := l1.cells
  have hs1 : w.heap.size < w1.heap.size := l1.lt
  clear l1
  go_wp2_with fail
  have j2 := AtTh.new w1 T1
  refine (toTh_any X _).mono ?_
  rintro e w2 ⟨rfl, b2⟩
  have k2 := AtTh.on j2 (by rfl) b2
  have B2 : Hid (Below w.heap.size w w2) := b_then (b_alloc B1.out _) b2
  clear b2 c0 c1 c2 c3 j2
  go_wp2_with fail
  refine (implNew_any X _).mono ?_
  rintro e w3 ⟨T3, rfl, t3, b3⟩
  have k3 := AtTh.on k2 (by rfl) b3
  have B3 : Hid (Below w.heap.size w w3) := b_then B2.out b3
  clear b3 k2
  have E3 : Hid (cnT T3 = cnT T1) := t3.trans T1h.out.symm
  clear t3
  obtain ⟨c0, c1, c2, c3⟩ := k3.cells
  have hs3 : w1.heap.size < w3.heap.size := k3.lt
  clear k3
  go_wp2_with fail
  refine (eqTh_same T3 T1 E3.out _).mono ?_
  rintro e w4 ⟨rfl, b4⟩
  have B4 : Hid (Below w.heap.size w w4) := b_then (b_alloc B3.out _) b4
  clear b4 c0 c1 c2 c3
  go_wp2
  go_ret
  exact ⟨rfl, B4.out⟩
set_option maxRecDepth 100000 in
set_option maxHeartbeats 4000000 in
theorem walk_FnExactWearOf (X : Th) (wX : (Lit.float .f32 X.h).wf = true ∧ (Lit.float .f32 X.u).wf = true ∧ (Lit.float .f32 X.v).wf = true ∧ (Lit.int .i8 X.s).wf = true) (w : World) :
    Calls Try.prog 5 #[.agg #[.float .f32 X.h, .float .f32 X.u, .float .f32 X.v, .int .i8 X.s]] w fun e w' => e = .returned (.bool true) ∧ Below w.heap.size w w' := by
  skip
  go_enter Try.func5, Try.ntmps5
  go_wp2_with fail
  refine (toTh_any X _).mono ?_
  rintro e w0 ⟨rfl, b0⟩
  have B0 : Hid (Below w.heap.size w w0) := b_then ((b_alloc (Below.refl _ _) _)) b0
  have l0 := AtLTh.on (AtLTh.new w X) (by rfl) b0
  clear b0
  go_wp2_with fail
  refine (specWear_any X wX.2.2.2 _).mono ?_
  rintro e w1 ⟨r1, rfl, h1, b1⟩
  have H1 := Lib.hid h1; clear h1
  have B1 : Hid (Below w.heap.size w w1) := b_then (B0.out) b1
  have l1 := AtLTh.on l0 (by rfl) b1
  clear b1 l0
  obtain ⟨c0, c1, c2, c3⟩ := l1.cells
  clear l1
  go_wp2_with fail
  refine (toTh_any X _).mono ?_
  rintro e w2 ⟨rfl, b2⟩
  have B2 : Hid (Below w.heap.size w w2) := b_then (B1.out) b2
  clear b2
  go_wp2_with fail
  refine (implWear_any X _).mono ?_
  rintro e w3 ⟨r3, rfl, h3, b3⟩
  have H3 := Lib.hid h3; clear h3
  have B3 : Hid (Below w.heap.size w w3) := b_then (B2.out) b3
  clear b3
  rcases cnx (H3.out.trans H1.out.symm) with ⟨hn2, hn1⟩ | ⟨hnn, he12⟩
  · have q1 := fun w => run_nan_wide (P := Try.prog) w 22 36 r1 (by rw [Try.underlying22]; rfl) Try.underlying36 hn1
    have q2 := fun w => run_nan_wide (P := Try.prog) w 22 36 r3 (by rw [Try.underlying22]; rfl) Try.underlying36 hn2
    clear hn1 hn2
    go_wp2_with (go_at_call 22; refine (sf_nan _ _ _ (nanTo_nan _ _) (nanTo_nan _ _)).mono ?_; rintro e w' ⟨rfl, rfl⟩)
    go_ret
    exact ⟨rfl, by first | exact B3.out.drew.drew | exact b_drewN B3.out _⟩
  · subst he12
    have q1 := fun w => run_wide (P := Try.prog) w 22 36 r3 (by rw [Try.underlying22]; rfl) Try.underlying36 hnn
    have q3 := (wide_some hnn).2
    clear hnn
    go_wp2_with (go_at_call 22; refine (sf_eq _ _ q3).mono ?_; rintro e w' ⟨rfl, rfl⟩)
    go_ret
    exact ⟨rfl, B3.out⟩
theorem specValidTooth_any (X : Th) (wX : (Lit.int .i8 X.s).wf = true) (w : World) : Calls Try.prog 15 #[.agg #[.float .f32 X.h, .float .f32 X.u, .float .f32 X.v, .int .i8 X.s]] w (RV (.bool (okT X)) w) := by
  have hv := Lib.hid (fun w => l06Ok_any X wX w)
  clear wX
  go_enter Try.func15, Try.ntmps15
  go_wp2_with (go_at_call 53; refine (hv.out _).mono ?_; rintro e w1 ⟨rfl, b1⟩)
  go_ret
  refine ⟨rfl, ?_⟩
  (repeat (first | exact Below.refl _ _ | refine b_drewN ?_ _ | refine b_drew ?_ | refine b_alloc ?_ _ | refine b_then ?_ (by assumption)))
set_option maxRecDepth 100000 in
set_option maxHeartbeats 4000000 in
theorem walk_FnExactValidTooth (X : Th) (wX : (Lit.float .f32 X.h).wf = true ∧ (Lit.float .f32 X.u).wf = true ∧ (Lit.float .f32 X.v).wf = true ∧ (Lit.int .i8 X.s).wf = true) (w : World) :
    Calls Try.prog 3 #[.agg #[.float .f32 X.h, .float .f32 X.u, .float .f32 X.v, .int .i8 X.s]] w fun e w' => e = .returned (.bool true) ∧ Below w.heap.size w w' := by
  skip
  go_enter Try.func3, Try.ntmps3
  go_wp2_with fail
  refine (toTh_any X _).mono ?_
  rintro e w0 ⟨rfl, b0⟩
  have B0 : Hid (Below w.heap.size w w0) := b_then ((b_alloc (Below.refl _ _) _)) b0
  have l0 := AtLTh.on (AtLTh.new w X) (by rfl) b0
  clear b0
  go_wp2_with fail
  refine (specValidTooth_any X wX.2.2.2 _).mono ?_
  rintro e w1 ⟨rfl, b1⟩
  have B1 : Hid (Below w.heap.size w w1) := b_then (B0.out) b1
  have l1 := AtLTh.on l0 (by rfl) b1
  clear b1 l0
  obtain ⟨c0, c1, c2, c3⟩ := l1.cells
  clear l1
  go_wp2_with fail
  refine (toTh_any X _).mono ?_
  rintro e w2 ⟨rfl, b2⟩
  have B2 : Hid (Below w.heap.size w w2) := b_then (B1.out) b2
  clear b2
  go_wp2_with fail
  refine (validTooth_any X _).mono ?_
  rintro e w3 ⟨rfl, b3⟩
  have B3 : Hid (Below w.heap.size w w3) := b_then (B2.out) b3
  clear b3
  go_wp2
  go_ret
  exact ⟨rfl, B3.out⟩
end Go.Proofs.Ytndmkfmfphgckaa
