/-
  Walks of the laws on validity.
-/
import Derived.Test.YtjkgiknklkfipaaDoorWv
import Derived.Deep.RegionLaw
namespace Go.Proofs.YtjkgiknklkfipaaDoor
open Go.RowKit Go.ChangeShapes Go.WideShapes Go.Deep
attribute [local go_sem ↓] Go.wp_at_zero Go.wp_at_succ
set_option linter.unusedVariables false
set_option linter.unusedSimpArgs false
theorem toMl_ex (X : Ml) (w : World) : Calls Tryd.prog 53 #[.agg #[.int .i16 X.b, .float .f32 X.h, .float .f32 X.r]] w fun e w' => e = .returned (.agg #[.int .i16 X.b, .float .f32 X.h, .float .f32 X.r]) ∧ ∃ A B C, w' = ((w.alloc A).alloc B).alloc C := by
  go_enter Tryd.func53, Tryd.ntmps53
  go_wp2
  refine bodyPost_ret (v := .agg #[.int .i16 X.b, .float .f32 X.h, .float .f32 X.r]) (by simp [results, Tryd.results53, go_sem]) rfl ⟨rfl, ?_⟩
  exact ⟨_, _, _, rfl⟩
theorem toGv_any (G : Gv) (w : World) : Calls Tryd.prog 30 #[.agg #[.int .i16 G.mb, .float .f32 G.mh, .float .f32 G.mr, .float .f32 G.ar, .float .f32 G.he, .float .f32 G.lo, .float .f32 G.hi, .float .f32 G.ine]] w (RV (.agg #[.int .i16 G.mb, .float .f32 G.mh, .float .f32 G.mr, .float .f32 G.ar, .float .f32 G.he, .float .f32 G.lo, .float .f32 G.hi, .float .f32 G.ine]) w) := by
  go_enter Tryd.func30, Tryd.ntmps30
  go_wp2_with fail
  refine (toMl_ex (millOf G) _).mono ?_
  rintro e w1 ⟨rfl, A, B, C, rfl⟩
  go_wp2_with fail
  refine bodyPost_ret (v := .agg #[.int .i16 G.mb, .float .f32 G.mh, .float .f32 G.mr, .float .f32 G.ar, .float .f32 G.he, .float .f32 G.lo, .float .f32 G.hi, .float .f32 G.ine]) (by simp [results, Tryd.results30, go_sem, millOf]) rfl ⟨rfl, ?_⟩
  (repeat (first | exact Below.refl _ _ | refine b_drewN ?_ _ | refine b_drew ?_ | refine b_alloc ?_ _ | refine b_then ?_ (by assumption)))
-- laws by program
end Go.Proofs.YtjkgiknklkfipaaDoor
