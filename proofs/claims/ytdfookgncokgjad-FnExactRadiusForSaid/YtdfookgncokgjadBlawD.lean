/-
  The law of radii that are looked for.
-/
import Derived.Test.YtdfookgncokgjadBrad
import Derived.Test.YtdfookgncokgjadBto
namespace Go.Proofs.Ytdfookgncokgjad
open Go.RowKit Go.ChangeShapes Go.WideShapes Go.Deep
attribute [local go_sem ↓] Go.wp_at_zero Go.wp_at_succ
set_option linter.unusedVariables false
set_option linter.unusedSimpArgs false
set_option maxRecDepth 100000 in
theorem walk_FnExactRadiusFor (B : Bl) (t : Nat) (wt : (Lit.float .f32 t).wf = true) (s : Nat) (ws : (Lit.float .f32 s).wf = true) (w : World) :
    Calls Try.prog 8 #[.agg #[.float .f32 B.a, .float .f32 B.b, .float .f32 B.ap, .float .f32 B.g, .bool B.x], .float .f32 t, .float .f32 s] w fun e w' => e = .returned (.bool true) ∧ Below w.heap.size w w' := by
  go_enter Try.func8, Try.ntmps8
  go_wp2_with fail
  refine (toBelt_any B _).mono ?_
  rintro e w0 ⟨rfl, b0⟩
  have l0 := AtL.on (AtL.new w B) (by rfl) b0
  have B0 : Hid (Below w.heap.size w w0) := by first | exact b0 | exact b_then (b_alloc (Below.refl _ _) _) b0
  clear b0
  go_wp2_with fail
  refine (specRadius_any B t s _).mono ?_
  rintro e w1 ⟨r1, rfl, h1, b1⟩
  have H1 := Lib.hid h1; clear h1
  have B1 : Hid (Below w.heap.size w w1) := b_then B0.out b1
  have l1 := AtL.on l0 (by rfl) b1
  clear b1
  obtain ⟨c0, c1, c2, c3, c4⟩ := l1.cells
  clear l0 l1
  go_wp2_with fail
  refine (toBelt_any B _).mono ?_
  rintro e w2 ⟨rfl, b2⟩
  clear c0 c1 c2 c3 c4
  have B2 : Hid (Below w.heap.size w w2) := b_then B1.out b2
  clear b2
  go_wp2_with fail
  refine (implRadius_any B t s _).mono ?_
  rintro e w3 ⟨r3, rfl, h3, b3⟩
  have H3 := Lib.hid h3; clear h3
  have B3 : Hid (Below w.heap.size w w3) := b_then B2.out b3
  clear b3
  rcases cnx (H3.out.trans H1.out.symm) with ⟨hn2, hn1⟩ | ⟨hnn, he12⟩
  · have q1 := fun w => run_nan_wide (P := Try.prog) w 22 30 r1 (by rw [Try.underlying22]; rfl) Try.underlying30 hn1
    have q2 := fun w => run_nan_wide (P := Try.prog) w 22 30 r3 (by rw [Try.underlying22]; rfl) Try.underlying30 hn2
    clear hn1 hn2
    go_wp2_with (go_at_call 16; refine (sf_nan _ _ _ (nanTo_nan _ _) (nanTo_nan _ _)).mono ?_; rintro e w' ⟨rfl, rfl⟩)
    go_ret
    exact ⟨rfl, by first | exact B3.out.drew.drew | exact b_drewN B3.out _⟩
  · subst he12
    have q1 := fun w => run_wide (P := Try.prog) w 22 30 r3 (by rw [Try.underlying22]; rfl) Try.underlying30 hnn
    have q3 := (wide_some hnn).2
    clear hnn
    go_wp2_with (go_at_call 16; refine (sf_eq _ _ q3).mono ?_; rintro e w' ⟨rfl, rfl⟩)
    go_ret
    exact ⟨rfl, B3.out⟩
end Go.Proofs.Ytdfookgncokgjad
