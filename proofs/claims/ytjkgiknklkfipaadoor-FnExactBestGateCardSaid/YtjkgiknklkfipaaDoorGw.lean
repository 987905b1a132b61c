/-
  The law of BestGate.
-/
import Derived.Test.YtjkgiknklkfipaaDoorGv
namespace Go.Proofs.YtjkgiknklkfipaaDoor
open Go.RowKit Go.ChangeShapes Go.WideShapes Go.Deep
attribute [local go_sem ↓] Go.wp_at_zero Go.wp_at_succ
set_option linter.unusedVariables false
set_option linter.unusedSimpArgs false
set_option maxRecDepth 100000
set_option maxRecDepth 100000 in
set_option maxHeartbeats 4000000 in
theorem walk_FnExactBestGate (X : Gv) (wX : (Lit.int .i16 X.mb).wf = true ∧ (Lit.float .f32 X.mh).wf = true ∧ (Lit.float .f32 X.mr).wf = true ∧ (Lit.float .f32 X.ar).wf = true ∧ (Lit.float .f32 X.he).wf = true ∧ (Lit.float .f32 X.lo).wf = true ∧ (Lit.float .f32 X.hi).wf = true ∧ (Lit.float .f32 X.ine).wf = true) (s : Nat) (ws : (Lit.float .f32 s).wf = true) (l : Nat) (wl : (Lit.float .f32 l).wf = true) (w : World) (Z : Sens) (hZ : SenAt w Z) :
    Calls Tryd.prog 6 #[.agg #[.int .i16 X.mb, .float .f32 X.mh, .float .f32 X.mr, .float .f32 X.ar, .float .f32 X.he, .float .f32 X.lo, .float .f32 X.hi, .float .f32 X.ine], .float .f32 s, .float .f32 l] w fun e w' => e = .returned (.bool true) ∧ Below w.heap.size w w' := by
  have HZ := Lib.hid hZ; clear hZ
  skip
  go_enter Tryd.func6, Tryd.ntmps6
  go_wp2_with fail
  refine (toGv_any X _).mono ?_
  rintro e w0 ⟨rfl, b0⟩
  have B0 : Hid (Below w.heap.size w w0) := b_then ((b_alloc (Below.refl _ _) _)) b0
  have l0 := AtLGv.on (AtLGv.new w X) (by rfl) b0
  clear b0
  go_wp2_with fail
  refine (specBestGate_any X wX.1 (f32_wf wX.2.1) s l _).mono ?_
  rintro e w1 ⟨rfl, b1⟩
  have B1 : Hid (Below w.heap.size w w1) := b_then (B0.out) b1
  have l1 := AtLGv.on l0 (by rfl) b1
  clear b1 l0
  obtain ⟨c0, c1, c2, c3, c4, c5, c6, c7⟩ := l1.cells
  clear l1
  go_wp2_with fail
  refine (toGv_any X _).mono ?_
  rintro e w2 ⟨rfl, b2⟩
  have B2 : Hid (Below w.heap.size w w2) := b_then (B1.out) b2
  clear b2
  have Z2 : Hid (SenAt w2 Z) := SenAt.on HZ.out (by rfl) B2.out
  go_wp2_with fail
  refine (implBestGate_any X wX.1 (f32_wf wX.2.1) s (f32_wf ws) l _ Z Z2.out).mono ?_
  rintro e w3 ⟨rfl, b3⟩
  have B3 : Hid (Below w.heap.size w w3) := b_then (B2.out) b3
  clear b3
  go_wp2
  go_ret
  exact ⟨rfl, B3.out⟩
end Go.Proofs.YtjkgiknklkfipaaDoor
