/-
  A worn tooth: the model's function and the program's.
-/
import Derived.Test.YtndmkfmfphgckaaYc
import Derived.Deep.RegionLaw
namespace Go.Proofs.Ytndmkfmfphgckaa
open Go.RowKit Go.ChangeShapes Go.WideShapes Go.Deep
attribute [local go_sem ↓] Go.wp_at_zero Go.wp_at_succ
set_option linter.unusedVariables false
set_option linter.unusedSimpArgs false
set_option maxRecDepth 100000

set_option maxHeartbeats 1000000 in
theorem specWorn0 (h u v l : Nat) (w : World) : Calls Try.prog 61 #[.agg #[.float .f32 h, .float .f32 u, .float .f32 v, .int .i8 0], .float .f32 l] w (RTh ⟨cn h, wearC (cn h) (cn u) (cn l), cn v, 0⟩ w) := by
  obtain ⟨R, N, hR, hC⟩ := ops_fun Try.prog 22; have ra := hR .add rfl; have rs := hR .sub rfl; have rm := hR .mul rfl; have rq := hR .quo rfl; have HC := Lib.hid hC; clear hC hR
  have HZ : Hid (∀ w0 w1 w2 w3, cn (R .add u (R .quo (R .mul l (R .add 1065353216 u w0) w1) h w2) w3) = f2 .add (cn u) (f2 .quo (f2 .mul (cn l) (f2 .add (cn 1065353216) (cn u))) (cn h))) := fun w0 w1 w2 w3 => by rw [HC.out .add rfl, HC.out .quo rfl, HC.out .mul rfl, HC.out .add rfl]
  obtain ⟨X, hX⟩ : ∃ X : Th, X = ⟨h, u, v, 0⟩ := ⟨_, rfl⟩
  obtain ⟨k0, k1, bw⟩ := boxT_two w ⟨h, u, v, 0⟩
  have hs0 : w.heap.size < ((w.alloc (.cells #[.float .f32 h, .float .f32 u, .float .f32 v, .int .i8 0] 28)).alloc (.cells #[.float .f32 0, .float .f32 0, .float .f32 0, .int .i8 0] 28)).heap.size := k0.lt
  have hs1 : w.heap.size + 1 < ((w.alloc (.cells #[.float .f32 h, .float .f32 u, .float .f32 v, .int .i8 0] 28)).alloc (.cells #[.float .f32 0, .float .f32 0, .float .f32 0, .int .i8 0] 28)).heap.size := k1.lt
  have K0 := Lib.hid k0; have K1 := Lib.hid k1; have Bw := Lib.hid bw; clear bw hX X
  have hne : w.heap.size + 1 ≠ w.heap.size := by omega
  have q0 : w.heap.size ≤ w.heap.size := Nat.le_refl _
  have q1 : w.heap.size ≤ w.heap.size + 1 := by omega
  unfold wearC capW
  rcases Bool.eq_false_or_eq_true (oGt (f2 .add (cn u) (f2 .quo (f2 .mul (cn l) (f2 .add (cn 1065353216) (cn u))) (cn h))) 1065353216) with t1 | t1
  · rw [t1]
    simp only [if_true, if_false, Bool.false_eq_true]
    have hg := fun w0 w1 w2 w3 => (oGt_cn (x := R .add u (R .quo (R .mul l (R .add 1065353216 u w0) w1) h w2) w3) (y := 1065353216) (y' := 1065353216) ((HZ.out w0 w1 w2 w3).trans (cn_f2 _ _ _).symm) rfl).trans t1
    have T1 := Lib.hid t1; clear t1
    have g1 := fun w0 w1 w2 w3 => (tf_gt (hg w0 w1 w2 w3)).1 rfl; clear hg
    go_enter Try.func61, Try.ntmps61
    go_upto_region 1 with fail
    generalize ((w.alloc (.cells #[.float .f32 h, .float .f32 u, .float .f32 v, .int .i8 0] 28)).alloc (.cells #[.float .f32 0, .float .f32 0, .float .f32 0, .int .i8 0] 28)) = W at *
    have c0 := k0.cell 0; have c1 := k0.cell 1; have c2 := k0.cell 2; have c3 := k0.cell 3; simp at c0 c1 c2 c3; have z1 := k0.frozen 1; have z2 := k0.frozen 2; have z3 := k0.frozen 3; have d0 := k1.cell 0; have d1 := k1.cell 1; have d2 := k1.cell 2; have d3 := k1.cell 3; simp at d0 d1 d2 d3; have y0 := k1.frozen 0; have y1 := k1.frozen 1; have y2 := k1.frozen 2; have y3 := k1.frozen 3
    clear k0 k1
    go_wp2
    refine bodyPost_ret (ret_th (T := ⟨h, 1065353216, v, 0⟩) Try.results61 rfl (((((((K1.out.draws _).setO hne 1 _).set 0 _).set 1 _).set 2 _).set 3 _))) rfl ⟨_, rfl, ?_, ?_⟩
    · unfold ThIs cnT; dsimp only; rw [cn_one]
    · exact b_set (b_set (b_set (b_set (b_set (b_drewN Bw.out _) q0 _ _) q1 _ _) q1 _ _) q1 _ _) q1 _ _
  · rw [t1]
    simp only [if_true, if_false, Bool.false_eq_true]
    have hg := fun w0 w1 w2 w3 => (oGt_cn (x := R .add u (R .quo (R .mul l (R .add 1065353216 u w0) w1) h w2) w3) (y := 1065353216) (y' := 1065353216) ((HZ.out w0 w1 w2 w3).trans (cn_f2 _ _ _).symm) rfl).trans t1
    have T1 := Lib.hid t1; clear t1
    have g1 := fun w0 w1 w2 w3 => ((tf_gt (hg w0 w1 w2 w3)).2 rfl).1; have g2 := fun w0 w1 w2 w3 => ((tf_gt (hg w0 w1 w2 w3)).2 rfl).2; clear hg
    go_enter Try.func61, Try.ntmps61
    go_upto_region 1 with fail
    generalize ((w.alloc (.cells #[.float .f32 h, .float .f32 u, .float .f32 v, .int .i8 0] 28)).alloc (.cells #[.float .f32 0, .float .f32 0, .float .f32 0, .int .i8 0] 28)) = W at *
    have c0 := k0.cell 0; have c1 := k0.cell 1; have c2 := k0.cell 2; have c3 := k0.cell 3; simp at c0 c1 c2 c3; have z1 := k0.frozen 1; have z2 := k0.frozen 2; have z3 := k0.frozen 3; have d0 := k1.cell 0; have d1 := k1.cell 1; have d2 := k1.cell 2; have d3 := k1.cell 3; simp at d0 d1 d2 d3; have y0 := k1.frozen 0; have y1 := k1.frozen 1; have y2 := k1.frozen 2; have y3 := k1.frozen 3
    clear k0 k1
    go_wp2
    refine bodyPost_ret (ret_th (T := ⟨h, _, v, 0⟩) Try.results61 rfl (((((((K1.out.draws _).setO hne 1 _).set 0 _).set 1 _).set 2 _).set 3 _))) rfl ⟨_, rfl, ?_, ?_⟩
    · unfold ThIs cnT; dsimp only; rw [HZ.out]
    · exact b_set (b_set (b_set (b_set (b_set (b_drewN Bw.out _) q0 _ _) q1 _ _) q1 _ _) q1 _ _) q1 _ _
set_option maxHeartbeats 1000000 in
theorem specWorn1 (h u v l : Nat) (w : World) : Calls Try.prog 61 #[.agg #[.float .f32 h, .float .f32 u, .float .f32 v, .int .i8 1], .float .f32 l] w (RTh ⟨cn h, cn u, wearC (cn h) (cn v) (cn l), 1⟩ w) := by
  obtain ⟨R, N, hR, hC⟩ := ops_fun Try.prog 22; have ra := hR .add rfl; have rs := hR .sub rfl; have rm := hR .mul rfl; have rq := hR .quo rfl; have HC := Lib.hid hC; clear hC hR
  have HZ : Hid (∀ w0 w1 w2 w3, cn (R .add v (R .quo (R .mul l (R .add 1065353216 v w0) w1) h w2) w3) = f2 .add (cn v) (f2 .quo (f2 .mul (cn l) (f2 .add (cn 1065353216) (cn v))) (cn h))) := fun w0 w1 w2 w3 => by rw [HC.out .add rfl, HC.out .quo rfl, HC.out .mul rfl, HC.out .add rfl]
  obtain ⟨X, hX⟩ : ∃ X : Th, X = ⟨h, u, v, 1⟩ := ⟨_, rfl⟩
  obtain ⟨k0, k1, bw⟩ := boxT_two w ⟨h, u, v, 1⟩
  have hs0 : w.heap.size < ((w.alloc (.cells #[.float .f32 h, .float .f32 u, .float .f32 v, .int .i8 1] 28)).alloc (.cells #[.float .f32 0, .float .f32 0, .float .f32 0, .int .i8 0] 28)).heap.size := k0.lt
  have hs1 : w.heap.size + 1 < ((w.alloc (.cells #[.float .f32 h, .float .f32 u, .float .f32 v, .int .i8 1] 28)).alloc (.cells #[.float .f32 0, .float .f32 0, .float .f32 0, .int .i8 0] 28)).heap.size := k1.lt
  have K0 := Lib.hid k0; have K1 := Lib.hid k1; have Bw := Lib.hid bw; clear bw hX X
  have hne : w.heap.size + 1 ≠ w.heap.size := by omega
  have q0 : w.heap.size ≤ w.heap.size := Nat.le_refl _
  have q1 : w.heap.size ≤ w.heap.size + 1 := by omega
  unfold wearC capW
  rcases Bool.eq_false_or_eq_true (oGt (f2 .add (cn v) (f2 .quo (f2 .mul (cn l) (f2 .add (cn 1065353216) (cn v))) (cn h))) 1065353216) with t1 | t1
  · rw [t1]
    simp only [if_true, if_false, Bool.false_eq_true]
    have hg := fun w0 w1 w2 w3 => (oGt_cn (x := R .add v (R .quo (R .mul l (R .add 1065353216 v w0) w1) h w2) w3) (y := 1065353216) (y' := 1065353216) ((HZ.out w0 w1 w2 w3).trans (cn_f2 _ _ _).symm) rfl).trans t1
    have T1 := Lib.hid t1; clear t1
    have g1 := fun w0 w1 w2 w3 => (tf_gt (hg w0 w1 w2 w3)).1 rfl; clear hg
    go_enter Try.func61, Try.ntmps61
    go_upto_region 1 with fail
    generalize ((w.alloc (.cells #[.float .f32 h, .float .f32 u, .float .f32 v, .int .i8 1] 28)).alloc (.cells #[.float .f32 0, .float .f32 0, .float .f32 0, .int .i8 0] 28)) = W at *
    have c0 := k0.cell 0; have c1 := k0.cell 1; have c2 := k0.cell 2; have c3 := k0.cell 3; simp at c0 c1 c2 c3; have z1 := k0.frozen 1; have z2 := k0.frozen 2; have z3 := k0.frozen 3; have d0 := k1.cell 0; have d1 := k1.cell 1; have d2 := k1.cell 2; have d3 := k1.cell 3; simp at d0 d1 d2 d3; have y0 := k1.frozen 0; have y1 := k1.frozen 1; have y2 := k1.frozen 2; have y3 := k1.frozen 3
    clear k0 k1
    go_wp2
    refine bodyPost_ret (ret_th (T := ⟨h, u, 1065353216, 1⟩) Try.results61 rfl (((((((K1.out.draws _).setO hne 2 _).set 0 _).set 1 _).set 2 _).set 3 _))) rfl ⟨_, rfl, ?_, ?_⟩
    · unfold ThIs cnT; dsimp only; rw [cn_one]
    · exact b_set (b_set (b_set (b_set (b_set (b_drewN Bw.out _) q0 _ _) q1 _ _) q1 _ _) q1 _ _) q1 _ _
  · rw [t1]
    simp only [if_true, if_false, Bool.false_eq_true]
    have hg := fun w0 w1 w2 w3 => (oGt_cn (x := R .add v (R .quo (R .mul l (R .add 1065353216 v w0) w1) h w2) w3) (y := 1065353216) (y' := 1065353216) ((HZ.out w0 w1 w2 w3).trans (cn_f2 _ _ _).symm) rfl).trans t1
    have T1 := Lib.hid t1; clear t1
    have g1 := fun w0 w1 w2 w3 => ((tf_gt (hg w0 w1 w2 w3)).2 rfl).1; have g2 := fun w0 w1 w2 w3 => ((tf_gt (hg w0 w1 w2 w3)).2 rfl).2; clear hg
    go_enter Try.func61, Try.ntmps61
    go_upto_region 1 with fail
    generalize ((w.alloc (.cells #[.float .f32 h, .float .f32 u, .float .f32 v, .int .i8 1] 28)).alloc (.cells #[.float .f32 0, .float .f32 0, .float .f32 0, .int .i8 0] 28)) = W at *
    have c0 := k0.cell 0; have c1 := k0.cell 1; have c2 := k0.cell 2; have c3 := k0.cell 3; simp at c0 c1 c2 c3; have z1 := k0.frozen 1; have z2 := k0.frozen 2; have z3 := k0.frozen 3; have d0 := k1.cell 0; have d1 := k1.cell 1; have d2 := k1.cell 2; have d3 := k1.cell 3; simp at d0 d1 d2 d3; have y0 := k1.frozen 0; have y1 := k1.frozen 1; have y2 := k1.frozen 2; have y3 := k1.frozen 3
    clear k0 k1
    go_wp2
    refine bodyPost_ret (ret_th (T := ⟨h, u, _, 1⟩) Try.results61 rfl (((((((K1.out.draws _).setO hne 2 _).set 0 _).set 1 _).set 2 _).set 3 _))) rfl ⟨_, rfl, ?_, ?_⟩
    · unfold ThIs cnT; dsimp only; rw [HZ.out]
    · exact b_set (b_set (b_set (b_set (b_set (b_drewN Bw.out _) q0 _ _) q1 _ _) q1 _ _) q1 _ _) q1 _ _
theorem specWorn_any (X : Th) (l : Nat) (hs : X.s = 0 ∨ X.s = 1) (w : World) : Calls Try.prog 61 #[.agg #[.float .f32 X.h, .float .f32 X.u, .float .f32 X.v, .int .i8 X.s], .float .f32 l] w (RTh (wornX X l) w) := by
  obtain ⟨h, u, v, s⟩ := X
  dsimp only at hs ⊢
  rcases hs with rfl | rfl
  · exact specWorn0 h u v l w
  · exact specWorn1 h u v l w
end Go.Proofs.Ytndmkfmfphgckaa
