/-
  Stones that are the same, up to which NaN, compare as such; laws with a stone and a code.
-/
import Derived.Test.YtjkgiknklkfipaaSd
namespace Go.Proofs.Ytjkgiknklkfipaa
open Go.RowKit Go.ChangeShapes Go.WideShapes Go.Deep
attribute [local go_sem ↓] Go.wp_at_zero Go.wp_at_succ
set_option linter.unusedVariables false
set_option linter.unusedSimpArgs false
set_option maxRecDepth 100000
theorem conv_two {x y : Nat} (h : cn x = cn y) : ∃ zx zy : World → Nat, ∃ dx dy : Nat, (∀ w, (convert 24 35 (.float .f32 x)).run Try.prog w = .ok (.float .f64 (zx w)) (w.drewN dx)) ∧ (∀ w, (convert 24 35 (.float .f32 y)).run Try.prog w = .ok (.float .f64 (zy w)) (w.drewN dy)) ∧ ∀ (w W w2 : World), Calls Try.prog 28 #[.float .f64 (zx w), .float .f64 (zy w2)] W fun e w' => e = .returned (.bool true) ∧ W = w' := by
  rcases cnx h with ⟨hx, hy⟩ | ⟨hx, rfl⟩
  · refine ⟨fun w => nanTo w x, fun w => nanTo w y, 1, 1, fun w => ?_, fun w => ?_, fun w W w2 => sf_nan _ _ _ (nanTo_nan _ _) (nanTo_nan _ _)⟩
    · exact run_nan_wide (P := Try.prog) w 24 35 x (by rw [Try.underlying24]; rfl) Try.underlying35 hx
    · exact run_nan_wide (P := Try.prog) w 24 35 y (by rw [Try.underlying24]; rfl) Try.underlying35 hy
  · refine ⟨fun _ => wide x, fun _ => wide x, 0, 0, fun w => ?_, fun w => ?_, fun w W w2 => sf_eq _ _ (wide_some hx).2⟩ <;>
      exact run_wide (P := Try.prog) w 24 35 x (by rw [Try.underlying24]; rfl) Try.underlying35 hx
set_option maxHeartbeats 2000000 in
theorem eqSn_same (X Y : Sn) (h : cnS X = cnS Y) (w : World) : Calls Try.prog 22 #[.agg #[.float .f32 X.d, .float .f32 X.r, .float .f32 X.b, .float .f32 X.g], .agg #[.float .f32 Y.d, .float .f32 Y.r, .float .f32 Y.b, .float .f32 Y.g]] w (RV (.bool true) w) := by
  unfold cnS at h
  injection h with h1 h2 h3 h4
  obtain ⟨za, ya, da, ea, ra, sa, ha⟩ := conv_two h1
  obtain ⟨zb, yb, db, eb, rb, sb, hb⟩ := conv_two h2
  obtain ⟨zc, yc, dc, ec, rc, sc, hc⟩ := conv_two h3
  obtain ⟨zd, yd, dd, ed, rd, sd, hd⟩ := conv_two h4
  have Ha := Lib.hid ha; have Hb := Lib.hid hb; have Hc := Lib.hid hc; have Hd := Lib.hid hd
  clear ha hb hc hd h1 h2 h3 h4
  go_enter Try.func22, Try.ntmps22
  go_wp2_with fail
  refine (Ha.out _ _ _).mono ?_
  rintro e w1 ⟨rfl, rfl⟩
  go_wp2_with fail
  refine (Hb.out _ _ _).mono ?_
  rintro e w1 ⟨rfl, rfl⟩
  go_wp2_with fail
  refine (Hc.out _ _ _).mono ?_
  rintro e w1 ⟨rfl, rfl⟩
  go_wp2_with fail
  refine (Hd.out _ _ _).mono ?_
  rintro e w1 ⟨rfl, rfl⟩
  go_wp2
  go_ret
  refine ⟨rfl, ?_⟩
  (repeat (first | exact Below.refl _ _ | refine b_drewN ?_ _ | refine b_drew ?_ | refine b_alloc ?_ _ | refine b_then ?_ (by assumption)))
end Go.Proofs.Ytjkgiknklkfipaa
