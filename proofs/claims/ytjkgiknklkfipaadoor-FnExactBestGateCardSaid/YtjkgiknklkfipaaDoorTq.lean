/-
  The torque of a mill: the program's function and the model's.
-/
import Derived.Test.YtjkgiknklkfipaaDoorSpill
namespace Go.Proofs.YtjkgiknklkfipaaDoor
open Go.RowKit Go.ChangeShapes Go.WideShapes Go.Deep
attribute [local go_sem ↓] Go.wp_at_zero Go.wp_at_succ
set_option linter.unusedVariables false
set_option linter.unusedSimpArgs false
set_option maxRecDepth 100000
theorem half_i16 {M : Ml} (hM : GoodM M) : floatOfInt .f32 (IntKind.i16.wrap (M.b.tdiv 2)) = downN M := by
  have hb := hM.b
  unfold downN
  rw [Int.tdiv_eq_ediv_of_nonneg (by omega)]
  congr 1
  unfold IntKind.wrap
  simp [IntKind.signed, IntKind.bits]
  omega
theorem implTorque_any (M : Ml) (hM : GoodM M) (f s : Nat) (hf : fOK f) (hs : spB s = true) (w : World) : Calls Tryd.prog 106 #[.agg #[.int .i16 M.b, .float .f32 M.h, .float .f32 M.r], .float .f32 f, .float .f32 s] w (RV (.float .f32 (torqN M f s)) w) := by
  have Hf := Lib.hid hf; have Hs := Lib.hid hs
  clear hf hs
  obtain ⟨e1, e2, e3, e4, _⟩ := torq_some hM Hf.out Hs.out; have rm1 := fun w => run_float_arith (P := Tryd.prog) w .mul 24 .f32 _ _ _ e1; have rm2 := fun w => run_float_arith (P := Tryd.prog) w .mul 24 .f32 _ _ _ e2; have rm3 := fun w => run_float_arith (P := Tryd.prog) w .mul 24 .f32 _ _ _ e3; have rm4 := fun w => run_float_arith (P := Tryd.prog) w .mul 24 .f32 _ _ _ e4; clear e1 e2 e3 e4
  have hd := half_i16 hM
  have H0 := Lib.hid (AtMl.new w M)
  have HM := Lib.hid hM
  clear hM
  go_enter Tryd.func106, Tryd.ntmps106
  go_wp2_with (go_at_call 117; refine (implFill_any M HM.out f s Hf.out Hs.out _).mono ?_; rintro e w1 ⟨rfl, b1⟩; have B1 : Hid (Below w.heap.size w w1) := b_then (b_alloc (Below.refl _ _) _) b1; obtain ⟨c0, c1, c2⟩ := (H0.out.on (by rfl) b1).cells)
  go_ret
  exact ⟨rfl, B1.out⟩
theorem specTorque_any (M : Ml) (hM : GoodM M) (f s : Nat) (hf : fOK f) (hs : spB s = true) (w : World) : Calls Tryd.prog 77 #[.agg #[.int .i16 M.b, .float .f32 M.h, .float .f32 M.r], .float .f32 f, .float .f32 s] w (RV (.float .f32 (torqN M f s)) w) := by
  have Hf := Lib.hid hf; have Hs := Lib.hid hs
  clear hf hs
  obtain ⟨e1, e2, e3, e4, _⟩ := torq_some hM Hf.out Hs.out; have rm1 := fun w => run_float_arith (P := Tryd.prog) w .mul 24 .f32 _ _ _ e1; have rm2 := fun w => run_float_arith (P := Tryd.prog) w .mul 24 .f32 _ _ _ e2; have rm3 := fun w => run_float_arith (P := Tryd.prog) w .mul 24 .f32 _ _ _ e3; have rm4 := fun w => run_float_arith (P := Tryd.prog) w .mul 24 .f32 _ _ _ e4; clear e1 e2 e3 e4
  have hd := half_i16 hM
  have h0 := AtMl.new w M
  obtain ⟨c0, c1, c2⟩ := h0.cells
  have H0 := Lib.hid h0
  have HM := Lib.hid hM
  clear hM h0
  go_enter Tryd.func77, Tryd.ntmps77
  go_wp2_with fail
  go_region_law (go_simp; go_at_call 97; refine (specFill_any M HM.out f s Hf.out Hs.out _).mono ?_; rintro e w1 ⟨rfl, b1⟩; (try (obtain ⟨u0, u1, u2⟩ := (H0.out.on (by rfl) b1).cells)); dsimp only)
  all_goals
    go_wp2
    go_ret
    refine ⟨rfl, ?_⟩
    repeat (first | exact Below.refl _ _ | refine b_drewN ?_ _ | refine b_drew ?_ | refine b_alloc ?_ _ | refine b_then ?_ (by assumption))
end Go.Proofs.YtjkgiknklkfipaaDoor
