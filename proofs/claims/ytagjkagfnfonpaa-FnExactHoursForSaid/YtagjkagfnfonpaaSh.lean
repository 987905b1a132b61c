/-
  Stones that are the same, up to which NaN, compare as such; laws with a stone and a code.
-/
import Derived.Test.YtagjkagfnfonpaaSd
namespace Go.Proofs.Ytagjkagfnfonpaa
open Go.RowKit Go.ChangeShapes Go.WideShapes Go.Deep
attribute [local go_sem ↓] Go.wp_at_zero Go.wp_at_succ
set_option linter.unusedVariables false
set_option linter.unusedSimpArgs false
set_option maxRecDepth 100000
theorem conv_two {x y : Nat} (h : cn x = cn y) : ∃ zx zy : World → Nat, ∃ dx dy : Nat, (∀ w, (convert 22 35 (.float .f32 x)).run Try.prog w = .ok (.float .f64 (zx w)) (w.drewN dx)) ∧ (∀ w, (convert 22 35 (.float .f32 y)).run Try.prog w = .ok (.float .f64 (zy w)) (w.drewN dy)) ∧ ∀ (w W w2 : World), Calls Try.prog 24 #[.float .f64 (zx w), .float .f64 (zy w2)] W fun e w' => e = .returned (.bool true) ∧ W = w' := by
  rcases cnx h with ⟨hx, hy⟩ | ⟨hx, rfl⟩
  · refine ⟨fun w => nanTo w x, fun w => nanTo w y, 1, 1, fun w => ?_, fun w => ?_, fun w W w2 => sf_nan _ _ _ (nanTo_nan _ _) (nanTo_nan _ _)⟩
    · exact run_nan_wide (P := Try.prog) w 22 35 x (by rw [Try.underlying22]; rfl) Try.underlying35 hx
    · exact run_nan_wide (P := Try.prog) w 22 35 y (by rw [Try.underlying22]; rfl) Try.underlying35 hy
  · refine ⟨fun _ => wide x, fun _ => wide x, 0, 0, fun w => ?_, fun w => ?_, fun w W w2 => sf_eq _ _ (wide_some hx).2⟩ <;>
      exact run_wide (P := Try.prog) w 22 35 x (by rw [Try.underlying22]; rfl) Try.underlying35 hx
set_option maxHeartbeats 2000000 in
theorem eqSn_same (X Y : Sn) (h : cnS X = cnS Y) (w : World) : Calls Try.prog 31 #[.agg #[.float .f32 X.d, .float .f32 X.r, .float .f32 X.b, .float .f32 X.g], .agg #[.float .f32 Y.d, .float .f32 Y.r, .float .f32 Y.b, .float .f32 Y.g]] w (RV (.bool true) w) := by
  unfold cnS at h
  injection h with h1 h2 h3 h4
  obtain ⟨za, ya, da, ea, ra, sa, ha⟩ := conv_two h1
  obtain ⟨zb, yb, db, eb, rb, sb, hb⟩ := conv_two h2
  obtain ⟨zc, yc, dc, ec, rc, sc, hc⟩ := conv_two h3
  obtain ⟨zd, yd, dd, ed, rd, sd, hd⟩ := conv_two h4
  have Ha := Lib.hid ha; have Hb := Lib.hid hb; have Hc := Lib.hid hc; have Hd := Lib.hid hd
  clear ha hb hc hd h1 h2 h3 h4
  go_enter Try.func31, Try.ntmps31
  go_wp2_with fail
  refine (Ha.out _ _ _).mono ?_
  rintro e w1 ⟨rfl, rfl⟩
  go_wp2_with fail
  refine (Hb.out _ _ _).mono ?_
  rintro e w1 ⟨rfl, rfl⟩
  go_wp2_with fail
  refine (Hc.out _ _ _).mono ?_
  rintro e w1 ⟨rfl, rfl⟩
  go_wp2_with fail
  refine (Hd.out _ _ _).mono ?_
  rintro e w1 ⟨rfl, rfl⟩
  go_wp2
  go_ret
  refine ⟨rfl, ?_⟩
  (repeat (first | exact Below.refl _ _ | refine b_drewN ?_ _ | refine b_drew ?_ | refine b_alloc ?_ _ | refine b_then ?_ (by assumption)))
set_option maxRecDepth 100000 in
set_option maxHeartbeats 4000000 in
theorem walk_FnExactDulled (S : Sn) (wS : (Lit.float .f32 S.d).wf = true ∧ (Lit.float .f32 S.r).wf = true ∧ (Lit.float .f32 S.b).wf = true ∧ (Lit.float .f32 S.g).wf = true) (f : Nat) (wf : (Lit.float .f32 f).wf = true) (w : World) :
    Calls Try.prog 9 #[.agg #[.float .f32 S.d, .float .f32 S.r, .float .f32 S.b, .float .f32 S.g], .float .f32 f] w fun e w' => e = .returned (.bool true) ∧ Below w.heap.size w w' := by
  go_enter Try.func9, Try.ntmps9
  go_wp2_with fail
  refine (toSn_any S _).mono ?_
  rintro e w0 ⟨rfl, b0⟩
  have l0 := AtLSn.on (AtLSn.new w S) (by rfl) b0
  have B0 : Hid (Below w.heap.size w w0) := b_then (b_alloc (Below.refl _ _) _) b0
  clear b0
  go_wp2_with fail
  refine (specDulled_any S f _).mono ?_
  rintro e w1 ⟨T1, rfl, t1, b1⟩
  have l1 := AtLSn.on l0 (by rfl) b1
  have B1 : Hid (Below w.heap.size w w1) := b_then B0.out b1
  have T1h := Lib.hid t1
  clear b1 l0 t1
  obtain ⟨c0, c1, c2, c3⟩ := l1.cells
  have hs1 : w.heap.size < w1.heap.size := l1.lt
  clear l1
  go_wp2_with fail
  have j2 := AtSn.new w1 T1
  refine (toSn_any S _).mono ?_
  rintro e w2 ⟨rfl, b2⟩
  have k2 := AtSn.on j2 (by rfl) b2
  have B2 : Hid (Below w.heap.size w w2) := b_then (b_alloc B1.out _) b2
  clear b2 c0 c1 c2 c3 j2
  go_wp2_with fail
  refine (implDulled_any S f _).mono ?_
  rintro e w3 ⟨T3, rfl, t3, b3⟩
  have k3 := AtSn.on k2 (by rfl) b3
  have B3 : Hid (Below w.heap.size w w3) := b_then B2.out b3
  clear b3 k2
  have E3 : Hid (cnS T3 = cnS T1) := t3.trans T1h.out.symm
  clear t3
  obtain ⟨c0, c1, c2, c3⟩ := k3.cells
  have hs3 : w1.heap.size < w3.heap.size := k3.lt
  clear k3
  go_wp2_with fail
  refine (eqSn_same T3 T1 E3.out _).mono ?_
  rintro e w4 ⟨rfl, b4⟩
  have B4 : Hid (Below w.heap.size w w4) := b_then (b_alloc B3.out _) b4
  clear b4 c0 c1 c2 c3
  go_wp2
  go_ret
  exact ⟨rfl, B4.out⟩
set_option maxRecDepth 100000 in
set_option maxHeartbeats 4000000 in
theorem walk_FnExactDressed (S : Sn) (wS : (Lit.float .f32 S.d).wf = true ∧ (Lit.float .f32 S.r).wf = true ∧ (Lit.float .f32 S.b).wf = true ∧ (Lit.float .f32 S.g).wf = true) (w : World) :
    Calls Try.prog 10 #[.agg #[.float .f32 S.d, .float .f32 S.r, .float .f32 S.b, .float .f32 S.g]] w fun e w' => e = .returned (.bool true) ∧ Below w.heap.size w w' := by
  go_enter Try.func10, Try.ntmps10
  go_wp2_with fail
  refine (toSn_any S _).mono ?_
  rintro e w0 ⟨rfl, b0⟩
  have l0 := AtLSn.on (AtLSn.new w S) (by rfl) b0
  have B0 : Hid (Below w.heap.size w w0) := b_then (b_alloc (Below.refl _ _) _) b0
  clear b0
  go_wp2_with fail
  refine (specDressed_any S _).mono ?_
  rintro e w1 ⟨T1, rfl, t1, b1⟩
  have l1 := AtLSn.on l0 (by rfl) b1
  have B1 : Hid (Below w.heap.size w w1) := b_then B0.out b1
  have T1h := Lib.hid t1
  clear b1 l0 t1
  obtain ⟨c0, c1, c2, c3⟩ := l1.cells
  have hs1 : w.heap.size < w1.heap.size := l1.lt
  clear l1
  go_wp2_with fail
  have j2 := AtSn.new w1 T1
  refine (toSn_any S _).mono ?_
  rintro e w2 ⟨rfl, b2⟩
  have k2 := AtSn.on j2 (by rfl) b2
  have B2 : Hid (Below w.heap.size w w2) := b_then (b_alloc B1.out _) b2
  clear b2 c0 c1 c2 c3 j2
  go_wp2_with fail
  refine (implDressed_any S _).mono ?_
  rintro e w3 ⟨T3, rfl, t3, b3⟩
  have k3 := AtSn.on k2 (by rfl) b3
  have B3 : Hid (Below w.heap.size w w3) := b_then B2.out b3
  clear b3 k2
  have E3 : Hid (cnS T3 = cnS T1) := t3.trans T1h.out.symm
  clear t3
  obtain ⟨c0, c1, c2, c3⟩ := k3.cells
  have hs3 : w1.heap.size < w3.heap.size := k3.lt
  clear k3
  go_wp2_with fail
  refine (eqSn_same T3 T1 E3.out _).mono ?_
  rintro e w4 ⟨rfl, b4⟩
  have B4 : Hid (Below w.heap.size w w4) := b_then (b_alloc B3.out _) b4
  clear b4 c0 c1 c2 c3
  go_wp2
  go_ret
  exact ⟨rfl, B4.out⟩
end Go.Proofs.Ytagjkagfnfonpaa
