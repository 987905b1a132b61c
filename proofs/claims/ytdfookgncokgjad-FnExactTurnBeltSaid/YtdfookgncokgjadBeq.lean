/-
  A belt compares as itself.
-/
import Derived.Test.YtdfookgncokgjadBto
namespace Go.Proofs.Ytdfookgncokgjad
open Go.RowKit Go.ChangeShapes Go.WideShapes Go.Deep
attribute [local go_sem ↓] Go.wp_at_zero Go.wp_at_succ
set_option linter.unusedVariables false
set_option linter.unusedSimpArgs false
theorem conv_any (x : Nat) : ∃ z : World → Nat, ∃ d : Nat, (∀ w, (convert 22 30 (.float .f32 x)).run Try.prog w = .ok (.float .f64 (z w)) (w.drewN d)) ∧ ∀ (w W w2 : World), Calls Try.prog 16 #[.float .f64 (z w), .float .f64 (z w2)] W fun e w' => e = .returned (.bool true) ∧ W = w' := by
  cases h : nan32 x
  · refine ⟨fun _ => wide x, 0, fun w => ?_, fun w W w2 => sf_eq _ _ (wide_some h).2⟩
    exact run_wide (P := Try.prog) w 22 30 x (by rw [Try.underlying22]; rfl) Try.underlying30 h
  · refine ⟨fun w => nanTo w x, 1, fun w => ?_, fun w W w2 => sf_nan _ _ _ (nanTo_nan _ _) (nanTo_nan _ _)⟩
    exact run_nan_wide (P := Try.prog) w 22 30 x (by rw [Try.underlying22]; rfl) Try.underlying30 h
set_option maxHeartbeats 2000000 in
theorem eqBelt_same (B : Bl) (w : World) : Calls Try.prog 43 #[.agg #[.float .f32 B.a, .float .f32 B.b, .float .f32 B.ap, .float .f32 B.g, .bool B.x], .agg #[.float .f32 B.a, .float .f32 B.b, .float .f32 B.ap, .float .f32 B.g, .bool B.x]] w (RV (.bool true) w) := by
  obtain ⟨za, da, ra, ha⟩ := conv_any B.a
  obtain ⟨zb, db, rb, hb⟩ := conv_any B.b
  obtain ⟨zc, dc, rc, hc⟩ := conv_any B.ap
  obtain ⟨zd, dd, rd, hd⟩ := conv_any B.g
  have Ha := Lib.hid ha; have Hb := Lib.hid hb; have Hc := Lib.hid hc; have Hd := Lib.hid hd
  clear ha hb hc hd
  go_enter Try.func43, Try.ntmps43
  go_wp2_with fail
  refine (Ha.out _ _ _).mono ?_
  rintro e w1 ⟨rfl, rfl⟩
  go_wp2_with fail
  refine (Hb.out _ _ _).mono ?_
  rintro e w1 ⟨rfl, rfl⟩
  go_wp2_with fail
  refine (Hc.out _ _ _).mono ?_
  rintro e w1 ⟨rfl, rfl⟩
  go_wp2_with fail
  refine (Hd.out _ _ _).mono ?_
  rintro e w1 ⟨rfl, rfl⟩
  go_wp2
  all_goals
    go_ret
    refine ⟨rfl, ?_⟩
    (repeat (first | exact Below.refl _ _ | refine b_drewN ?_ _ | refine b_drew ?_ | refine b_alloc ?_ _ | refine b_then ?_ (by assumption)))
end Go.Proofs.Ytdfookgncokgjad
