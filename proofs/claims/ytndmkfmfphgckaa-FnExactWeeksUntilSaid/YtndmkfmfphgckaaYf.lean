/-
  Functions of one tooth with a code: both sides.
-/
import Derived.Test.YtndmkfmfphgckaaYd
import Derived.Test.YtndmkfmfphgckaaYe
namespace Go.Proofs.Ytndmkfmfphgckaa
open Go.RowKit Go.ChangeShapes Go.WideShapes Go.Deep
attribute [local go_sem ↓] Go.wp_at_zero Go.wp_at_succ
set_option linter.unusedVariables false
set_option linter.unusedSimpArgs false
set_option maxRecDepth 100000

set_option maxHeartbeats 2000000 in
theorem specTurn_bad (h u v : Nat) (s : Int) (ht : okT ⟨h, u, v, s⟩ = false) (wX : (Lit.int .i8 s).wf = true) (w : World) : Calls Try.prog 28 #[.agg #[.float .f32 h, .float .f32 u, .float .f32 v, .int .i8 s]] w (RThC th0 1 w) := by
  have hv := Lib.hid (fun w => l06Ok_is (X := ⟨h, u, v, s⟩) ht wX w)
  clear ht
  obtain ⟨k0, k1, bw⟩ := boxT_two w ⟨h, u, v, s⟩
  have hs0 : w.heap.size < ((w.alloc (.cells #[.float .f32 h, .float .f32 u, .float .f32 v, .int .i8 s] 28)).alloc (.cells #[.float .f32 0, .float .f32 0, .float .f32 0, .int .i8 0] 28)).heap.size := k0.lt
  have hs1 : w.heap.size + 1 < ((w.alloc (.cells #[.float .f32 h, .float .f32 u, .float .f32 v, .int .i8 s] 28)).alloc (.cells #[.float .f32 0, .float .f32 0, .float .f32 0, .int .i8 0] 28)).heap.size := k1.lt
  have K0 := Lib.hid k0; have K1 := Lib.hid k1; have Bw := Lib.hid bw; clear bw
  have hne : w.heap.size + 1 ≠ w.heap.size := by omega
  have q0 : w.heap.size ≤ w.heap.size := Nat.le_refl _
  have q1 : w.heap.size ≤ w.heap.size + 1 := by omega
  go_enter Try.func28, Try.ntmps28
  go_upto_region 1 with fail
  generalize ((w.alloc (.cells #[.float .f32 h, .float .f32 u, .float .f32 v, .int .i8 s] 28)).alloc (.cells #[.float .f32 0, .float .f32 0, .float .f32 0, .int .i8 0] 28)) = W at *
  have c0 := k0.cell 0; have c1 := k0.cell 1; have c2 := k0.cell 2; have c3 := k0.cell 3; simp at c0 c1 c2 c3; have z1 := k0.frozen 1; have z2 := k0.frozen 2; have z3 := k0.frozen 3; have d0 := k1.cell 0; have d1 := k1.cell 1; have d2 := k1.cell 2; have d3 := k1.cell 3; simp at d0 d1 d2 d3; have y0 := k1.frozen 0; have y1 := k1.frozen 1; have y2 := k1.frozen 2; have y3 := k1.frozen 3
  clear k0 k1
  go_wp2_with (go_at_call 53; refine (hv.out _).mono ?_; rintro e w1 ⟨rfl, b1⟩; have k0 := Blk.on K0.out (by rfl) b1; have k1 := Blk.on K1.out (by rfl) b1; clear c0 c1 c2 c3 d0 d1 d2 d3 z1 z2 z3 y0 y1 y2 y3; have c0 := k0.cell 0; have c1 := k0.cell 1; have c2 := k0.cell 2; have c3 := k0.cell 3; simp at c0 c1 c2 c3; have z1 := k0.frozen 1; have z2 := k0.frozen 2; have z3 := k0.frozen 3; have d0 := k1.cell 0; have d1 := k1.cell 1; have d2 := k1.cell 2; have d3 := k1.cell 3; simp at d0 d1 d2 d3; have y0 := k1.frozen 0; have y1 := k1.frozen 1; have y2 := k1.frozen 2; have y3 := k1.frozen 3; have M0 := Lib.hid k0; have M1 := Lib.hid k1; have Ms0 := k0.lt; have Ms1 := k1.lt; clear k0 k1)
  refine bodyPost_ret (ret_thc (T := ⟨0, 0, 0, 0⟩) Try.results28 rfl ((((M1.out.set 0 _).set 1 _).set 2 _).set 3 _)) rfl ⟨_, rfl, is_th0, ?_⟩
  · have bw := Bw.out
    refine b_set (b_set (b_set (b_set ?_ q1 _ _) q1 _ _) q1 _ _) q1 _ _
    repeat (first | exact bw | refine b_drewN ?_ _ | refine b_drew ?_ | refine b_then ?_ (by assumption))
set_option maxHeartbeats 2000000 in
theorem implTurn_bad (h u v : Nat) (s : Int) (ht : okT ⟨h, u, v, s⟩ = false) (w : World) : Calls Try.prog 29 #[.agg #[.float .f32 h, .float .f32 u, .float .f32 v, .int .i8 s]] w (RThC th0 1 w) := by
  have hv := Lib.hid (fun w => validTooth_is (X := ⟨h, u, v, s⟩) ht w)
  clear ht
  obtain ⟨k0, k1, bw⟩ := boxT_two w ⟨h, u, v, s⟩
  have hs0 : w.heap.size < ((w.alloc (.cells #[.float .f32 h, .float .f32 u, .float .f32 v, .int .i8 s] 28)).alloc (.cells #[.float .f32 0, .float .f32 0, .float .f32 0, .int .i8 0] 28)).heap.size := k0.lt
  have hs1 : w.heap.size + 1 < ((w.alloc (.cells #[.float .f32 h, .float .f32 u, .float .f32 v, .int .i8 s] 28)).alloc (.cells #[.float .f32 0, .float .f32 0, .float .f32 0, .int .i8 0] 28)).heap.size := k1.lt
  have K0 := Lib.hid k0; have K1 := Lib.hid k1; have Bw := Lib.hid bw; clear bw
  have hne : w.heap.size + 1 ≠ w.heap.size := by omega
  have q0 : w.heap.size ≤ w.heap.size := Nat.le_refl _
  have q1 : w.heap.size ≤ w.heap.size + 1 := by omega
  go_enter Try.func29, Try.ntmps29
  go_upto_region 1 with fail
  generalize ((w.alloc (.cells #[.float .f32 h, .float .f32 u, .float .f32 v, .int .i8 s] 28)).alloc (.cells #[.float .f32 0, .float .f32 0, .float .f32 0, .int .i8 0] 28)) = W at *
  have c0 := k0.cell 0; have c1 := k0.cell 1; have c2 := k0.cell 2; have c3 := k0.cell 3; simp at c0 c1 c2 c3; have z1 := k0.frozen 1; have z2 := k0.frozen 2; have z3 := k0.frozen 3; have d0 := k1.cell 0; have d1 := k1.cell 1; have d2 := k1.cell 2; have d3 := k1.cell 3; simp at d0 d1 d2 d3; have y0 := k1.frozen 0; have y1 := k1.frozen 1; have y2 := k1.frozen 2; have y3 := k1.frozen 3
  clear k0 k1
  go_wp2_with (go_at_call 17; refine (hv.out _).mono ?_; rintro e w1 ⟨rfl, b1⟩; have k0 := Blk.on K0.out (by rfl) b1; have k1 := Blk.on K1.out (by rfl) b1; clear c0 c1 c2 c3 d0 d1 d2 d3 z1 z2 z3 y0 y1 y2 y3; have c0 := k0.cell 0; have c1 := k0.cell 1; have c2 := k0.cell 2; have c3 := k0.cell 3; simp at c0 c1 c2 c3; have z1 := k0.frozen 1; have z2 := k0.frozen 2; have z3 := k0.frozen 3; have d0 := k1.cell 0; have d1 := k1.cell 1; have d2 := k1.cell 2; have d3 := k1.cell 3; simp at d0 d1 d2 d3; have y0 := k1.frozen 0; have y1 := k1.frozen 1; have y2 := k1.frozen 2; have y3 := k1.frozen 3; have M0 := Lib.hid k0; have M1 := Lib.hid k1; have Ms0 := k0.lt; have Ms1 := k1.lt; clear k0 k1)
  refine bodyPost_ret (ret_thc (T := ⟨0, 0, 0, 0⟩) Try.results29 rfl ((((M1.out.set 0 _).set 1 _).set 2 _).set 3 _)) rfl ⟨_, rfl, is_th0, ?_⟩
  · have bw := Bw.out
    refine b_set (b_set (b_set (b_set ?_ q1 _ _) q1 _ _) q1 _ _) q1 _ _
    repeat (first | exact bw | refine b_drewN ?_ _ | refine b_drew ?_ | refine b_then ?_ (by assumption))
set_option maxHeartbeats 2000000 in
theorem specNew_bad (h u v : Nat) (s : Int) (ht : okT ⟨h, u, v, s⟩ = false) (wX : (Lit.int .i8 s).wf = true) (w : World) : Calls Try.prog 30 #[.agg #[.float .f32 h, .float .f32 u, .float .f32 v, .int .i8 s]] w (RThC th0 1 w) := by
  have hv := Lib.hid (fun w => l06Ok_is (X := ⟨h, u, v, s⟩) ht wX w)
  clear ht
  obtain ⟨k0, k1, bw⟩ := boxT_two w ⟨h, u, v, s⟩
  have hs0 : w.heap.size < ((w.alloc (.cells #[.float .f32 h, .float .f32 u, .float .f32 v, .int .i8 s] 28)).alloc (.cells #[.float .f32 0, .float .f32 0, .float .f32 0, .int .i8 0] 28)).heap.size := k0.lt
  have hs1 : w.heap.size + 1 < ((w.alloc (.cells #[.float .f32 h, .float .f32 u, .float .f32 v, .int .i8 s] 28)).alloc (.cells #[.float .f32 0, .float .f32 0, .float .f32 0, .int .i8 0] 28)).heap.size := k1.lt
  have K0 := Lib.hid k0; have K1 := Lib.hid k1; have Bw := Lib.hid bw; clear bw
  have hne : w.heap.size + 1 ≠ w.heap.size := by omega
  have q0 : w.heap.size ≤ w.heap.size := Nat.le_refl _
  have q1 : w.heap.size ≤ w.heap.size + 1 := by omega
  go_enter Try.func30, Try.ntmps30
  go_upto_region 1 with fail
  generalize ((w.alloc (.cells #[.float .f32 h, .float .f32 u, .float .f32 v, .int .i8 s] 28)).alloc (.cells #[.float .f32 0, .float .f32 0, .float .f32 0, .int .i8 0] 28)) = W at *
  have c0 := k0.cell 0; have c1 := k0.cell 1; have c2 := k0.cell 2; have c3 := k0.cell 3; simp at c0 c1 c2 c3; have z1 := k0.frozen 1; have z2 := k0.frozen 2; have z3 := k0.frozen 3; have d0 := k1.cell 0; have d1 := k1.cell 1; have d2 := k1.cell 2; have d3 := k1.cell 3; simp at d0 d1 d2 d3; have y0 := k1.frozen 0; have y1 := k1.frozen 1; have y2 := k1.frozen 2; have y3 := k1.frozen 3
  clear k0 k1
  go_wp2_with (go_at_call 53; refine (hv.out _).mono ?_; rintro e w1 ⟨rfl, b1⟩; have k0 := Blk.on K0.out (by rfl) b1; have k1 := Blk.on K1.out (by rfl) b1; clear c0 c1 c2 c3 d0 d1 d2 d3 z1 z2 z3 y0 y1 y2 y3; have c0 := k0.cell 0; have c1 := k0.cell 1; have c2 := k0.cell 2; have c3 := k0.cell 3; simp at c0 c1 c2 c3; have z1 := k0.frozen 1; have z2 := k0.frozen 2; have z3 := k0.frozen 3; have d0 := k1.cell 0; have d1 := k1.cell 1; have d2 := k1.cell 2; have d3 := k1.cell 3; simp at d0 d1 d2 d3; have y0 := k1.frozen 0; have y1 := k1.frozen 1; have y2 := k1.frozen 2; have y3 := k1.frozen 3; have M0 := Lib.hid k0; have M1 := Lib.hid k1; have Ms0 := k0.lt; have Ms1 := k1.lt; clear k0 k1)
  refine bodyPost_ret (ret_thc (T := ⟨0, 0, 0, 0⟩) Try.results30 rfl ((((M1.out.set 0 _).set 1 _).set 2 _).set 3 _)) rfl ⟨_, rfl, is_th0, ?_⟩
  · have bw := Bw.out
    refine b_set (b_set (b_set (b_set ?_ q1 _ _) q1 _ _) q1 _ _) q1 _ _
    repeat (first | exact bw | refine b_drewN ?_ _ | refine b_drew ?_ | refine b_then ?_ (by assumption))
set_option maxHeartbeats 2000000 in
theorem implNew_bad (h u v : Nat) (s : Int) (ht : okT ⟨h, u, v, s⟩ = false) (w : World) : Calls Try.prog 31 #[.agg #[.float .f32 h, .float .f32 u, .float .f32 v, .int .i8 s]] w (RThC th0 1 w) := by
  have hv := Lib.hid (fun w => validTooth_is (X := ⟨h, u, v, s⟩) ht w)
  clear ht
  obtain ⟨k0, k1, bw⟩ := boxT_two w ⟨h, u, v, s⟩
  have hs0 : w.heap.size < ((w.alloc (.cells #[.float .f32 h, .float .f32 u, .float .f32 v, .int .i8 s] 28)).alloc (.cells #[.float .f32 0, .float .f32 0, .float .f32 0, .int .i8 0] 28)).heap.size := k0.lt
  have hs1 : w.heap.size + 1 < ((w.alloc (.cells #[.float .f32 h, .float .f32 u, .float .f32 v, .int .i8 s] 28)).alloc (.cells #[.float .f32 0, .float .f32 0, .float .f32 0, .int .i8 0] 28)).heap.size := k1.lt
  have K0 := Lib.hid k0; have K1 := Lib.hid k1; have Bw := Lib.hid bw; clear bw
  have hne : w.heap.size + 1 ≠ w.heap.size := by omega
  have q0 : w.heap.size ≤ w.heap.size := Nat.le_refl _
  have q1 : w.heap.size ≤ w.heap.size + 1 := by omega
  go_enter Try.func31, Try.ntmps31
  go_upto_region 1 with fail
  generalize ((w.alloc (.cells #[.float .f32 h, .float .f32 u, .float .f32 v, .int .i8 s] 28)).alloc (.cells #[.float .f32 0, .float .f32 0, .float .f32 0, .int .i8 0] 28)) = W at *
  have c0 := k0.cell 0; have c1 := k0.cell 1; have c2 := k0.cell 2; have c3 := k0.cell 3; simp at c0 c1 c2 c3; have z1 := k0.frozen 1; have z2 := k0.frozen 2; have z3 := k0.frozen 3; have d0 := k1.cell 0; have d1 := k1.cell 1; have d2 := k1.cell 2; have d3 := k1.cell 3; simp at d0 d1 d2 d3; have y0 := k1.frozen 0; have y1 := k1.frozen 1; have y2 := k1.frozen 2; have y3 := k1.frozen 3
  clear k0 k1
  go_wp2_with (go_at_call 17; refine (hv.out _).mono ?_; rintro e w1 ⟨rfl, b1⟩; have k0 := Blk.on K0.out (by rfl) b1; have k1 := Blk.on K1.out (by rfl) b1; clear c0 c1 c2 c3 d0 d1 d2 d3 z1 z2 z3 y0 y1 y2 y3; have c0 := k0.cell 0; have c1 := k0.cell 1; have c2 := k0.cell 2; have c3 := k0.cell 3; simp at c0 c1 c2 c3; have z1 := k0.frozen 1; have z2 := k0.frozen 2; have z3 := k0.frozen 3; have d0 := k1.cell 0; have d1 := k1.cell 1; have d2 := k1.cell 2; have d3 := k1.cell 3; simp at d0 d1 d2 d3; have y0 := k1.frozen 0; have y1 := k1.frozen 1; have y2 := k1.frozen 2; have y3 := k1.frozen 3; have M0 := Lib.hid k0; have M1 := Lib.hid k1; have Ms0 := k0.lt; have Ms1 := k1.lt; clear k0 k1)
  refine bodyPost_ret (ret_thc (T := ⟨0, 0, 0, 0⟩) Try.results31 rfl ((((M1.out.set 0 _).set 1 _).set 2 _).set 3 _)) rfl ⟨_, rfl, is_th0, ?_⟩
  · have bw := Bw.out
    refine b_set (b_set (b_set (b_set ?_ q1 _ _) q1 _ _) q1 _ _) q1 _ _
    repeat (first | exact bw | refine b_drewN ?_ _ | refine b_drew ?_ | refine b_then ?_ (by assumption))
theorem renewed_any (X : Th) (w : World) : Calls Try.prog 68 #[.agg #[.float .f32 X.h, .float .f32 X.u, .float .f32 X.v, .int .i8 X.s]] w (RV (.agg #[.float .f32 X.h, .float .f32 0, .float .f32 0, .int .i8 0]) w) := by
  obtain ⟨k0, k1, bw⟩ := boxT_two w X; have hs0 : w.heap.size < ((w.alloc (.cells #[.float .f32 X.h, .float .f32 X.u, .float .f32 X.v, .int .i8 X.s] 28)).alloc (.cells #[.float .f32 0, .float .f32 0, .float .f32 0, .int .i8 0] 28)).heap.size := k0.lt; have hs1 : w.heap.size + 1 < ((w.alloc (.cells #[.float .f32 X.h, .float .f32 X.u, .float .f32 X.v, .int .i8 X.s] 28)).alloc (.cells #[.float .f32 0, .float .f32 0, .float .f32 0, .int .i8 0] 28)).heap.size := k1.lt; have K0 := Lib.hid k0; have K1 := Lib.hid k1; have Bw := Lib.hid bw; clear bw
  go_enter Try.func68, Try.ntmps68
  go_upto_region 1 with fail
  generalize ((w.alloc (.cells #[.float .f32 X.h, .float .f32 X.u, .float .f32 X.v, .int .i8 X.s] 28)).alloc (.cells #[.float .f32 0, .float .f32 0, .float .f32 0, .int .i8 0] 28)) = W at *; have c0 := k0.cell 0; have c1 := k0.cell 1; have c2 := k0.cell 2; have c3 := k0.cell 3; simp at c0 c1 c2 c3; have z1 := k0.frozen 1; have z2 := k0.frozen 2; have z3 := k0.frozen 3; have d0 := k1.cell 0; have d1 := k1.cell 1; have d2 := k1.cell 2; have d3 := k1.cell 3; simp at d0 d1 d2 d3; have y0 := k1.frozen 0; have y1 := k1.frozen 1; have y2 := k1.frozen 2; have y3 := k1.frozen 3; clear k0 k1
  go_wp2
  refine bodyPost_ret (ret_th (T := ⟨X.h, 0, 0, 0⟩) Try.results68 rfl ((((K1.out.set 0 _).set 1 _).set 2 _).set 3 _)) rfl ⟨rfl, ?_⟩
  have q1 : w.heap.size ≤ w.heap.size + 1 := by omega
  exact b_set (b_set (b_set (b_set Bw.out q1 _ _) q1 _ _) q1 _ _) q1 _ _
set_option maxHeartbeats 2000000 in
theorem specNew_ok (h u v : Nat) (s : Int) (ht : okT ⟨h, u, v, s⟩ = true) (wX : (Lit.int .i8 s).wf = true) (w : World) : Calls Try.prog 30 #[.agg #[.float .f32 h, .float .f32 u, .float .f32 v, .int .i8 s]] w (RThC (newC (cnT ⟨h, u, v, s⟩)) 0 w) := by
  have hv := Lib.hid (fun w => l06Ok_is (X := ⟨h, u, v, s⟩) ht wX w)
  clear ht
  obtain ⟨k0, k1, bw⟩ := boxT_two w ⟨h, u, v, s⟩
  have hs0 : w.heap.size < ((w.alloc (.cells #[.float .f32 h, .float .f32 u, .float .f32 v, .int .i8 s] 28)).alloc (.cells #[.float .f32 0, .float .f32 0, .float .f32 0, .int .i8 0] 28)).heap.size := k0.lt
  have hs1 : w.heap.size + 1 < ((w.alloc (.cells #[.float .f32 h, .float .f32 u, .float .f32 v, .int .i8 s] 28)).alloc (.cells #[.float .f32 0, .float .f32 0, .float .f32 0, .int .i8 0] 28)).heap.size := k1.lt
  have K0 := Lib.hid k0; have K1 := Lib.hid k1; have Bw := Lib.hid bw; clear bw
  have hne : w.heap.size + 1 ≠ w.heap.size := by omega
  have q0 : w.heap.size ≤ w.heap.size := Nat.le_refl _
  have q1 : w.heap.size ≤ w.heap.size + 1 := by omega
  go_enter Try.func30, Try.ntmps30
  go_upto_region 1 with fail
  generalize ((w.alloc (.cells #[.float .f32 h, .float .f32 u, .float .f32 v, .int .i8 s] 28)).alloc (.cells #[.float .f32 0, .float .f32 0, .float .f32 0, .int .i8 0] 28)) = W at *
  have c0 := k0.cell 0; have c1 := k0.cell 1; have c2 := k0.cell 2; have c3 := k0.cell 3; simp at c0 c1 c2 c3; have z1 := k0.frozen 1; have z2 := k0.frozen 2; have z3 := k0.frozen 3; have d0 := k1.cell 0; have d1 := k1.cell 1; have d2 := k1.cell 2; have d3 := k1.cell 3; simp at d0 d1 d2 d3; have y0 := k1.frozen 0; have y1 := k1.frozen 1; have y2 := k1.frozen 2; have y3 := k1.frozen 3
  clear k0 k1
  go_wp2_with (first | (go_at_call 53; refine (hv.out _).mono ?_; rintro e w1 ⟨rfl, b1⟩; have k0 := Blk.on K0.out (by rfl) b1; have k1 := Blk.on K1.out (by rfl) b1; clear c0 c1 c2 c3 d0 d1 d2 d3 z1 z2 z3 y0 y1 y2 y3; have c0 := k0.cell 0; have c1 := k0.cell 1; have c2 := k0.cell 2; have c3 := k0.cell 3; simp at c0 c1 c2 c3; have z1 := k0.frozen 1; have z2 := k0.frozen 2; have z3 := k0.frozen 3; have d0 := k1.cell 0; have d1 := k1.cell 1; have d2 := k1.cell 2; have d3 := k1.cell 3; simp at d0 d1 d2 d3; have y0 := k1.frozen 0; have y1 := k1.frozen 1; have y2 := k1.frozen 2; have y3 := k1.frozen 3; have M0 := Lib.hid k0; have M1 := Lib.hid k1; have Ms0 := k0.lt; have Ms1 := k1.lt; clear k0 k1) | (go_at_call 68; refine (renewed_any ⟨h, u, v, s⟩ _).mono ?_; rintro e w2 ⟨rfl, b2⟩; have k0 := Blk.on M0.out (by rfl) b2; have k1 := Blk.on M1.out (by rfl) b2; clear c0 c1 c2 c3 d0 d1 d2 d3 z1 z2 z3 y0 y1 y2 y3; have c0 := k0.cell 0; have c1 := k0.cell 1; have c2 := k0.cell 2; have c3 := k0.cell 3; simp at c0 c1 c2 c3; have z1 := k0.frozen 1; have z2 := k0.frozen 2; have z3 := k0.frozen 3; have d0 := k1.cell 0; have d1 := k1.cell 1; have d2 := k1.cell 2; have d3 := k1.cell 3; simp at d0 d1 d2 d3; have y0 := k1.frozen 0; have y1 := k1.frozen 1; have y2 := k1.frozen 2; have y3 := k1.frozen 3; have N0 := Lib.hid k0; have N1 := Lib.hid k1; have Ns0 := k0.lt; have Ns1 := k1.lt; clear k0 k1))
  refine bodyPost_ret (ret_thc (T := ⟨h, 0, 0, 0⟩) Try.results30 rfl ((((M1.out.set 0 _).set 1 _).set 2 _).set 3 _)) rfl ⟨_, rfl, by unfold ThIs cnT newC; dsimp only; rw [cnz], ?_⟩
  · have bw := Bw.out
    refine b_set (b_set (b_set (b_set ?_ q1 _ _) q1 _ _) q1 _ _) q1 _ _
    repeat (first | exact bw | refine b_drewN ?_ _ | refine b_drew ?_ | refine b_then ?_ (by assumption))
set_option maxHeartbeats 2000000 in
theorem implNew_ok (h u v : Nat) (s : Int) (ht : okT ⟨h, u, v, s⟩ = true) (w : World) : Calls Try.prog 31 #[.agg #[.float .f32 h, .float .f32 u, .float .f32 v, .int .i8 s]] w (RThC (newC (cnT ⟨h, u, v, s⟩)) 0 w) := by
  have hv := Lib.hid (fun w => validTooth_is (X := ⟨h, u, v, s⟩) ht w)
  clear ht
  obtain ⟨k0, k1, bw⟩ := boxT_two w ⟨h, u, v, s⟩
  have hs0 : w.heap.size < ((w.alloc (.cells #[.float .f32 h, .float .f32 u, .float .f32 v, .int .i8 s] 28)).alloc (.cells #[.float .f32 0, .float .f32 0, .float .f32 0, .int .i8 0] 28)).heap.size := k0.lt
  have hs1 : w.heap.size + 1 < ((w.alloc (.cells #[.float .f32 h, .float .f32 u, .float .f32 v, .int .i8 s] 28)).alloc (.cells #[.float .f32 0, .float .f32 0, .float .f32 0, .int .i8 0] 28)).heap.size := k1.lt
  have K0 := Lib.hid k0; have K1 := Lib.hid k1; have Bw := Lib.hid bw; clear bw
  have hne : w.heap.size + 1 ≠ w.heap.size := by omega
  have q0 : w.heap.size ≤ w.heap.size := Nat.le_refl _
  have q1 : w.heap.size ≤ w.heap.size + 1 := by omega
  go_enter Try.func31, Try.ntmps31
  go_upto_region 1 with fail
  generalize ((w.alloc (.cells #[.float .f32 h, .float .f32 u, .float .f32 v, .int .i8 s] 28)).alloc (.cells #[.float .f32 0, .float .f32 0, .float .f32 0, .int .i8 0] 28)) = W at *
  have c0 := k0.cell 0; have c1 := k0.cell 1; have c2 := k0.cell 2; have c3 := k0.cell 3; simp at c0 c1 c2 c3; have z1 := k0.frozen 1; have z2 := k0.frozen 2; have z3 := k0.frozen 3; have d0 := k1.cell 0; have d1 := k1.cell 1; have d2 := k1.cell 2; have d3 := k1.cell 3; simp at d0 d1 d2 d3; have y0 := k1.frozen 0; have y1 := k1.frozen 1; have y2 := k1.frozen 2; have y3 := k1.frozen 3
  clear k0 k1
  go_wp2_with (first | (go_at_call 17; refine (hv.out _).mono ?_; rintro e w1 ⟨rfl, b1⟩; have k0 := Blk.on K0.out (by rfl) b1; have k1 := Blk.on K1.out (by rfl) b1; clear c0 c1 c2 c3 d0 d1 d2 d3 z1 z2 z3 y0 y1 y2 y3; have c0 := k0.cell 0; have c1 := k0.cell 1; have c2 := k0.cell 2; have c3 := k0.cell 3; simp at c0 c1 c2 c3; have z1 := k0.frozen 1; have z2 := k0.frozen 2; have z3 := k0.frozen 3; have d0 := k1.cell 0; have d1 := k1.cell 1; have d2 := k1.cell 2; have d3 := k1.cell 3; simp at d0 d1 d2 d3; have y0 := k1.frozen 0; have y1 := k1.frozen 1; have y2 := k1.frozen 2; have y3 := k1.frozen 3; have M0 := Lib.hid k0; have M1 := Lib.hid k1; have Ms0 := k0.lt; have Ms1 := k1.lt; clear k0 k1) | (go_at_call 68; refine (renewed_any ⟨h, u, v, s⟩ _).mono ?_; rintro e w2 ⟨rfl, b2⟩; have k0 := Blk.on M0.out (by rfl) b2; have k1 := Blk.on M1.out (by rfl) b2; clear c0 c1 c2 c3 d0 d1 d2 d3 z1 z2 z3 y0 y1 y2 y3; have c0 := k0.cell 0; have c1 := k0.cell 1; have c2 := k0.cell 2; have c3 := k0.cell 3; simp at c0 c1 c2 c3; have z1 := k0.frozen 1; have z2 := k0.frozen 2; have z3 := k0.frozen 3; have d0 := k1.cell 0; have d1 := k1.cell 1; have d2 := k1.cell 2; have d3 := k1.cell 3; simp at d0 d1 d2 d3; have y0 := k1.frozen 0; have y1 := k1.frozen 1; have y2 := k1.frozen 2; have y3 := k1.frozen 3; have N0 := Lib.hid k0; have N1 := Lib.hid k1; have Ns0 := k0.lt; have Ns1 := k1.lt; clear k0 k1))
  refine bodyPost_ret (ret_thc (T := ⟨h, 0, 0, 0⟩) Try.results31 rfl ((((N1.out.set 0 _).set 1 _).set 2 _).set 3 _)) rfl ⟨_, rfl, by unfold ThIs cnT newC; dsimp only; rw [cnz], ?_⟩
  · have bw := Bw.out
    refine b_set (b_set (b_set (b_set ?_ q1 _ _) q1 _ _) q1 _ _) q1 _ _
    repeat (first | exact bw | refine b_drewN ?_ _ | refine b_drew ?_ | refine b_then ?_ (by assumption))
theorem turned0 (h u v : Nat) (w : World) : Calls Try.prog 67 #[.agg #[.float .f32 h, .float .f32 u, .float .f32 v, .int .i8 0]] w (RV (.agg #[.float .f32 h, .float .f32 u, .float .f32 v, .int .i8 1]) w) := by
  obtain ⟨k0, k1, bw⟩ := boxT_two w ⟨h, u, v, 0⟩
  have hs0 : w.heap.size < ((w.alloc (.cells #[.float .f32 h, .float .f32 u, .float .f32 v, .int .i8 0] 28)).alloc (.cells #[.float .f32 0, .float .f32 0, .float .f32 0, .int .i8 0] 28)).heap.size := k0.lt
  have hs1 : w.heap.size + 1 < ((w.alloc (.cells #[.float .f32 h, .float .f32 u, .float .f32 v, .int .i8 0] 28)).alloc (.cells #[.float .f32 0, .float .f32 0, .float .f32 0, .int .i8 0] 28)).heap.size := k1.lt
  have K0 := Lib.hid k0; have K1 := Lib.hid k1; have Bw := Lib.hid bw; clear bw
  have hne : w.heap.size + 1 ≠ w.heap.size := by omega
  have q0 : w.heap.size ≤ w.heap.size := Nat.le_refl _
  have q1 : w.heap.size ≤ w.heap.size + 1 := by omega
  go_enter Try.func67, Try.ntmps67
  go_upto_region 1 with fail
  generalize ((w.alloc (.cells #[.float .f32 h, .float .f32 u, .float .f32 v, .int .i8 0] 28)).alloc (.cells #[.float .f32 0, .float .f32 0, .float .f32 0, .int .i8 0] 28)) = W at *
  have c0 := k0.cell 0; have c1 := k0.cell 1; have c2 := k0.cell 2; have c3 := k0.cell 3; simp at c0 c1 c2 c3; have z1 := k0.frozen 1; have z2 := k0.frozen 2; have z3 := k0.frozen 3; have d0 := k1.cell 0; have d1 := k1.cell 1; have d2 := k1.cell 2; have d3 := k1.cell 3; simp at d0 d1 d2 d3; have y0 := k1.frozen 0; have y1 := k1.frozen 1; have y2 := k1.frozen 2; have y3 := k1.frozen 3
  clear k0 k1
  go_wp2
  refine bodyPost_ret (ret_th (T := ⟨h, u, v, 1⟩) Try.results67 rfl ((((K1.out.set 0 _).set 1 _).set 2 _).set 3 _)) rfl ⟨rfl, ?_⟩
  exact b_set (b_set (b_set (b_set Bw.out q1 _ _) q1 _ _) q1 _ _) q1 _ _
theorem turned1 (h u v : Nat) (w : World) : Calls Try.prog 67 #[.agg #[.float .f32 h, .float .f32 u, .float .f32 v, .int .i8 1]] w (RV (.agg #[.float .f32 h, .float .f32 u, .float .f32 v, .int .i8 0]) w) := by
  obtain ⟨k0, k1, bw⟩ := boxT_two w ⟨h, u, v, 1⟩
  have hs0 : w.heap.size < ((w.alloc (.cells #[.float .f32 h, .float .f32 u, .float .f32 v, .int .i8 1] 28)).alloc (.cells #[.float .f32 0, .float .f32 0, .float .f32 0, .int .i8 0] 28)).heap.size := k0.lt
  have hs1 : w.heap.size + 1 < ((w.alloc (.cells #[.float .f32 h, .float .f32 u, .float .f32 v, .int .i8 1] 28)).alloc (.cells #[.float .f32 0, .float .f32 0, .float .f32 0, .int .i8 0] 28)).heap.size := k1.lt
  have K0 := Lib.hid k0; have K1 := Lib.hid k1; have Bw := Lib.hid bw; clear bw
  have hne : w.heap.size + 1 ≠ w.heap.size := by omega
  have q0 : w.heap.size ≤ w.heap.size := Nat.le_refl _
  have q1 : w.heap.size ≤ w.heap.size + 1 := by omega
  go_enter Try.func67, Try.ntmps67
  go_upto_region 1 with fail
  generalize ((w.alloc (.cells #[.float .f32 h, .float .f32 u, .float .f32 v, .int .i8 1] 28)).alloc (.cells #[.float .f32 0, .float .f32 0, .float .f32 0, .int .i8 0] 28)) = W at *
  have c0 := k0.cell 0; have c1 := k0.cell 1; have c2 := k0.cell 2; have c3 := k0.cell 3; simp at c0 c1 c2 c3; have z1 := k0.frozen 1; have z2 := k0.frozen 2; have z3 := k0.frozen 3; have d0 := k1.cell 0; have d1 := k1.cell 1; have d2 := k1.cell 2; have d3 := k1.cell 3; simp at d0 d1 d2 d3; have y0 := k1.frozen 0; have y1 := k1.frozen 1; have y2 := k1.frozen 2; have y3 := k1.frozen 3
  clear k0 k1
  go_wp2
  refine bodyPost_ret (ret_th (T := ⟨h, u, v, 0⟩) Try.results67 rfl ((((K1.out.set 0 _).set 1 _).set 2 _).set 3 _)) rfl ⟨rfl, ?_⟩
  exact b_set (b_set (b_set (b_set Bw.out q1 _ _) q1 _ _) q1 _ _) q1 _ _
set_option maxHeartbeats 2000000 in
theorem specTurn_ok0 (h u v : Nat) (ht : okT ⟨h, u, v, 0⟩ = true) (wX : (Lit.int .i8 0).wf = true) (w : World) : Calls Try.prog 28 #[.agg #[.float .f32 h, .float .f32 u, .float .f32 v, .int .i8 0]] w (RThC (turnC (cnT ⟨h, u, v, 0⟩)) 0 w) := by
  have hv := Lib.hid (fun w => l06Ok_is (X := ⟨h, u, v, 0⟩) ht wX w)
  clear ht
  obtain ⟨k0, k1, bw⟩ := boxT_two w ⟨h, u, v, 0⟩
  have hs0 : w.heap.size < ((w.alloc (.cells #[.float .f32 h, .float .f32 u, .float .f32 v, .int .i8 0] 28)).alloc (.cells #[.float .f32 0, .float .f32 0, .float .f32 0, .int .i8 0] 28)).heap.size := k0.lt
  have hs1 : w.heap.size + 1 < ((w.alloc (.cells #[.float .f32 h, .float .f32 u, .float .f32 v, .int .i8 0] 28)).alloc (.cells #[.float .f32 0, .float .f32 0, .float .f32 0, .int .i8 0] 28)).heap.size := k1.lt
  have K0 := Lib.hid k0; have K1 := Lib.hid k1; have Bw := Lib.hid bw; clear bw
  have hne : w.heap.size + 1 ≠ w.heap.size := by omega
  have q0 : w.heap.size ≤ w.heap.size := Nat.le_refl _
  have q1 : w.heap.size ≤ w.heap.size + 1 := by omega
  go_enter Try.func28, Try.ntmps28
  go_upto_region 1 with fail
  generalize ((w.alloc (.cells #[.float .f32 h, .float .f32 u, .float .f32 v, .int .i8 0] 28)).alloc (.cells #[.float .f32 0, .float .f32 0, .float .f32 0, .int .i8 0] 28)) = W at *
  have c0 := k0.cell 0; have c1 := k0.cell 1; have c2 := k0.cell 2; have c3 := k0.cell 3; simp at c0 c1 c2 c3; have z1 := k0.frozen 1; have z2 := k0.frozen 2; have z3 := k0.frozen 3; have d0 := k1.cell 0; have d1 := k1.cell 1; have d2 := k1.cell 2; have d3 := k1.cell 3; simp at d0 d1 d2 d3; have y0 := k1.frozen 0; have y1 := k1.frozen 1; have y2 := k1.frozen 2; have y3 := k1.frozen 3
  clear k0 k1
  go_wp2_with (go_at_call 53; refine (hv.out _).mono ?_; rintro e w1 ⟨rfl, b1⟩; have k0 := Blk.on K0.out (by rfl) b1; have k1 := Blk.on K1.out (by rfl) b1; clear c0 c1 c2 c3 d0 d1 d2 d3 z1 z2 z3 y0 y1 y2 y3; have c0 := k0.cell 0; have c1 := k0.cell 1; have c2 := k0.cell 2; have c3 := k0.cell 3; simp at c0 c1 c2 c3; have z1 := k0.frozen 1; have z2 := k0.frozen 2; have z3 := k0.frozen 3; have d0 := k1.cell 0; have d1 := k1.cell 1; have d2 := k1.cell 2; have d3 := k1.cell 3; simp at d0 d1 d2 d3; have y0 := k1.frozen 0; have y1 := k1.frozen 1; have y2 := k1.frozen 2; have y3 := k1.frozen 3; have M0 := Lib.hid k0; have M1 := Lib.hid k1; have Ms0 := k0.lt; have Ms1 := k1.lt; clear k0 k1)
  refine bodyPost_ret (ret_thc (T := ⟨h, u, v, 1⟩) Try.results28 rfl (((((M1.out.setO hne 3 _).set 0 _).set 1 _).set 2 _).set 3 _)) rfl ⟨_, rfl, rfl, ?_⟩
  · have bw := Bw.out
    refine b_set (b_set (b_set (b_set (b_set ?_ q0 _ _) q1 _ _) q1 _ _) q1 _ _) q1 _ _
    repeat (first | exact bw | refine b_drewN ?_ _ | refine b_drew ?_ | refine b_then ?_ (by assumption))
set_option maxHeartbeats 2000000 in
theorem specTurn_ok1 (h u v : Nat) (ht : okT ⟨h, u, v, 1⟩ = true) (wX : (Lit.int .i8 1).wf = true) (w : World) : Calls Try.prog 28 #[.agg #[.float .f32 h, .float .f32 u, .float .f32 v, .int .i8 1]] w (RThC (turnC (cnT ⟨h, u, v, 1⟩)) 0 w) := by
  have hv := Lib.hid (fun w => l06Ok_is (X := ⟨h, u, v, 1⟩) ht wX w)
  clear ht
  obtain ⟨k0, k1, bw⟩ := boxT_two w ⟨h, u, v, 1⟩
  have hs0 : w.heap.size < ((w.alloc (.cells #[.float .f32 h, .float .f32 u, .float .f32 v, .int .i8 1] 28)).alloc (.cells #[.float .f32 0, .float .f32 0, .float .f32 0, .int .i8 0] 28)).heap.size := k0.lt
  have hs1 : w.heap.size + 1 < ((w.alloc (.cells #[.float .f32 h, .float .f32 u, .float .f32 v, .int .i8 1] 28)).alloc (.cells #[.float .f32 0, .float .f32 0, .float .f32 0, .int .i8 0] 28)).heap.size := k1.lt
  have K0 := Lib.hid k0; have K1 := Lib.hid k1; have Bw := Lib.hid bw; clear bw
  have hne : w.heap.size + 1 ≠ w.heap.size := by omega
  have q0 : w.heap.size ≤ w.heap.size := Nat.le_refl _
  have q1 : w.heap.size ≤ w.heap.size + 1 := by omega
  go_enter Try.func28, Try.ntmps28
  go_upto_region 1 with fail
  generalize ((w.alloc (.cells #[.float .f32 h, .float .f32 u, .float .f32 v, .int .i8 1] 28)).alloc (.cells #[.float .f32 0, .float .f32 0, .float .f32 0, .int .i8 0] 28)) = W at *
  have c0 := k0.cell 0; have c1 := k0.cell 1; have c2 := k0.cell 2; have c3 := k0.cell 3; simp at c0 c1 c2 c3; have z1 := k0.frozen 1; have z2 := k0.frozen 2; have z3 := k0.frozen 3; have d0 := k1.cell 0; have d1 := k1.cell 1; have d2 := k1.cell 2; have d3 := k1.cell 3; simp at d0 d1 d2 d3; have y0 := k1.frozen 0; have y1 := k1.frozen 1; have y2 := k1.frozen 2; have y3 := k1.frozen 3
  clear k0 k1
  go_wp2_with (go_at_call 53; refine (hv.out _).mono ?_; rintro e w1 ⟨rfl, b1⟩; have k0 := Blk.on K0.out (by rfl) b1; have k1 := Blk.on K1.out (by rfl) b1; clear c0 c1 c2 c3 d0 d1 d2 d3 z1 z2 z3 y0 y1 y2 y3; have c0 := k0.cell 0; have c1 := k0.cell 1; have c2 := k0.cell 2; have c3 := k0.cell 3; simp at c0 c1 c2 c3; have z1 := k0.frozen 1; have z2 := k0.frozen 2; have z3 := k0.frozen 3; have d0 := k1.cell 0; have d1 := k1.cell 1; have d2 := k1.cell 2; have d3 := k1.cell 3; simp at d0 d1 d2 d3; have y0 := k1.frozen 0; have y1 := k1.frozen 1; have y2 := k1.frozen 2; have y3 := k1.frozen 3; have M0 := Lib.hid k0; have M1 := Lib.hid k1; have Ms0 := k0.lt; have Ms1 := k1.lt; clear k0 k1)
  refine bodyPost_ret (ret_thc (T := ⟨h, u, v, 0⟩) Try.results28 rfl (((((M1.out.setO hne 3 _).set 0 _).set 1 _).set 2 _).set 3 _)) rfl ⟨_, rfl, rfl, ?_⟩
  · have bw := Bw.out
    refine b_set (b_set (b_set (b_set (b_set ?_ q0 _ _) q1 _ _) q1 _ _) q1 _ _) q1 _ _
    repeat (first | exact bw | refine b_drewN ?_ _ | refine b_drew ?_ | refine b_then ?_ (by assumption))
set_option maxHeartbeats 2000000 in
theorem implTurn_ok0 (h u v : Nat) (ht : okT ⟨h, u, v, 0⟩ = true) (w : World) : Calls Try.prog 29 #[.agg #[.float .f32 h, .float .f32 u, .float .f32 v, .int .i8 0]] w (RThC (turnC (cnT ⟨h, u, v, 0⟩)) 0 w) := by
  have hv := Lib.hid (fun w => validTooth_is (X := ⟨h, u, v, 0⟩) ht w)
  clear ht
  obtain ⟨k0, k1, bw⟩ := boxT_two w ⟨h, u, v, 0⟩
  have hs0 : w.heap.size < ((w.alloc (.cells #[.float .f32 h, .float .f32 u, .float .f32 v, .int .i8 0] 28)).alloc (.cells #[.float .f32 0, .float .f32 0, .float .f32 0, .int .i8 0] 28)).heap.size := k0.lt
  have hs1 : w.heap.size + 1 < ((w.alloc (.cells #[.float .f32 h, .float .f32 u, .float .f32 v, .int .i8 0] 28)).alloc (.cells #[.float .f32 0, .float .f32 0, .float .f32 0, .int .i8 0] 28)).heap.size := k1.lt
  have K0 := Lib.hid k0; have K1 := Lib.hid k1; have Bw := Lib.hid bw; clear bw
  have hne : w.heap.size + 1 ≠ w.heap.size := by omega
  have q0 : w.heap.size ≤ w.heap.size := Nat.le_refl _
  have q1 : w.heap.size ≤ w.heap.size + 1 := by omega
  go_enter Try.func29, Try.ntmps29
  go_upto_region 1 with fail
  generalize ((w.alloc (.cells #[.float .f32 h, .float .f32 u, .float .f32 v, .int .i8 0] 28)).alloc (.cells #[.float .f32 0, .float .f32 0, .float .f32 0, .int .i8 0] 28)) = W at *
  have c0 := k0.cell 0; have c1 := k0.cell 1; have c2 := k0.cell 2; have c3 := k0.cell 3; simp at c0 c1 c2 c3; have z1 := k0.frozen 1; have z2 := k0.frozen 2; have z3 := k0.frozen 3; have d0 := k1.cell 0; have d1 := k1.cell 1; have d2 := k1.cell 2; have d3 := k1.cell 3; simp at d0 d1 d2 d3; have y0 := k1.frozen 0; have y1 := k1.frozen 1; have y2 := k1.frozen 2; have y3 := k1.frozen 3
  clear k0 k1
  go_wp2_with (first | (go_at_call 17; refine (hv.out _).mono ?_; rintro e w1 ⟨rfl, b1⟩; have k0 := Blk.on K0.out (by rfl) b1; have k1 := Blk.on K1.out (by rfl) b1; clear c0 c1 c2 c3 d0 d1 d2 d3 z1 z2 z3 y0 y1 y2 y3; have c0 := k0.cell 0; have c1 := k0.cell 1; have c2 := k0.cell 2; have c3 := k0.cell 3; simp at c0 c1 c2 c3; have z1 := k0.frozen 1; have z2 := k0.frozen 2; have z3 := k0.frozen 3; have d0 := k1.cell 0; have d1 := k1.cell 1; have d2 := k1.cell 2; have d3 := k1.cell 3; simp at d0 d1 d2 d3; have y0 := k1.frozen 0; have y1 := k1.frozen 1; have y2 := k1.frozen 2; have y3 := k1.frozen 3; have M0 := Lib.hid k0; have M1 := Lib.hid k1; have Ms0 := k0.lt; have Ms1 := k1.lt; clear k0 k1) | (go_at_call 67; refine (turned0 h u v _).mono ?_; rintro e w2 ⟨rfl, b2⟩; have k0 := Blk.on M0.out (by rfl) b2; have k1 := Blk.on M1.out (by rfl) b2; clear c0 c1 c2 c3 d0 d1 d2 d3 z1 z2 z3 y0 y1 y2 y3; have c0 := k0.cell 0; have c1 := k0.cell 1; have c2 := k0.cell 2; have c3 := k0.cell 3; simp at c0 c1 c2 c3; have z1 := k0.frozen 1; have z2 := k0.frozen 2; have z3 := k0.frozen 3; have d0 := k1.cell 0; have d1 := k1.cell 1; have d2 := k1.cell 2; have d3 := k1.cell 3; simp at d0 d1 d2 d3; have y0 := k1.frozen 0; have y1 := k1.frozen 1; have y2 := k1.frozen 2; have y3 := k1.frozen 3; have N0 := Lib.hid k0; have N1 := Lib.hid k1; have Ns0 := k0.lt; have Ns1 := k1.lt; clear k0 k1))
  refine bodyPost_ret (ret_thc (T := ⟨h, u, v, 1⟩) Try.results29 rfl ((((N1.out.set 0 _).set 1 _).set 2 _).set 3 _)) rfl ⟨_, rfl, rfl, ?_⟩
  · have bw := Bw.out
    refine b_set (b_set (b_set (b_set ?_ q1 _ _) q1 _ _) q1 _ _) q1 _ _
    repeat (first | exact bw | refine b_drewN ?_ _ | refine b_drew ?_ | refine b_then ?_ (by assumption))
set_option maxHeartbeats 2000000 in
theorem implTurn_ok1 (h u v : Nat) (ht : okT ⟨h, u, v, 1⟩ = true) (w : World) : Calls Try.prog 29 #[.agg #[.float .f32 h, .float .f32 u, .float .f32 v, .int .i8 1]] w (RThC (turnC (cnT ⟨h, u, v, 1⟩)) 0 w) := by
  have hv := Lib.hid (fun w => validTooth_is (X := ⟨h, u, v, 1⟩) ht w)
  clear ht
  obtain ⟨k0, k1, bw⟩ := boxT_two w ⟨h, u, v, 1⟩
  have hs0 : w.heap.size < ((w.alloc (.cells #[.float .f32 h, .float .f32 u, .float .f32 v, .int .i8 1] 28)).alloc (.cells #[.float .f32 0, .float .f32 0, .float .f32 0, .int .i8 0] 28)).heap.size := k0.lt
  have hs1 : w.heap.size + 1 < ((w.alloc (.cells #[.float .f32 h, .float .f32 u, .float .f32 v, .int .i8 1] 28)).alloc (.cells #[.float .f32 0, .float .f32 0, .float .f32 0, .int .i8 0] 28)).heap.size := k1.lt
  have K0 := Lib.hid k0; have K1 := Lib.hid k1; have Bw := Lib.hid bw; clear bw
  have hne : w.heap.size + 1 ≠ w.heap.size := by omega
  have q0 : w.heap.size ≤ w.heap.size := Nat.le_refl _
  have q1 : w.heap.size ≤ w.heap.size + 1 := by omega
  go_enter Try.func29, Try.ntmps29
  go_upto_region 1 with fail
  generalize ((w.alloc (.cells #[.float .f32 h, .float .f32 u, .float .f32 v, .int .i8 1] 28)).alloc (.cells #[.float .f32 0, .float .f32 0, .float .f32 0, .int .i8 0] 28)) = W at *
  have c0 := k0.cell 0; have c1 := k0.cell 1; have c2 := k0.cell 2; have c3 := k0.cell 3; simp at c0 c1 c2 c3; have z1 := k0.frozen 1; have z2 := k0.frozen 2; have z3 := k0.frozen 3; have d0 := k1.cell 0; have d1 := k1.cell 1; have d2 := k1.cell 2; have d3 := k1.cell 3; simp at d0 d1 d2 d3; have y0 := k1.frozen 0; have y1 := k1.frozen 1; have y2 := k1.frozen 2; have y3 := k1.frozen 3
  clear k0 k1
  go_wp2_with (first | (go_at_call 17; refine (hv.out _).mono ?_; rintro e w1 ⟨rfl, b1⟩; have k0 := Blk.on K0.out (by rfl) b1; have k1 := Blk.on K1.out (by rfl) b1; clear c0 c1 c2 c3 d0 d1 d2 d3 z1 z2 z3 y0 y1 y2 y3; have c0 := k0.cell 0; have c1 := k0.cell 1; have c2 := k0.cell 2; have c3 := k0.cell 3; simp at c0 c1 c2 c3; have z1 := k0.frozen 1; have z2 := k0.frozen 2; have z3 := k0.frozen 3; have d0 := k1.cell 0; have d1 := k1.cell 1; have d2 := k1.cell 2; have d3 := k1.cell 3; simp at d0 d1 d2 d3; have y0 := k1.frozen 0; have y1 := k1.frozen 1; have y2 := k1.frozen 2; have y3 := k1.frozen 3; have M0 := Lib.hid k0; have M1 := Lib.hid k1; have Ms0 := k0.lt; have Ms1 := k1.lt; clear k0 k1) | (go_at_call 67; refine (turned1 h u v _).mono ?_; rintro e w2 ⟨rfl, b2⟩; have k0 := Blk.on M0.out (by rfl) b2; have k1 := Blk.on M1.out (by rfl) b2; clear c0 c1 c2 c3 d0 d1 d2 d3 z1 z2 z3 y0 y1 y2 y3; have c0 := k0.cell 0; have c1 := k0.cell 1; have c2 := k0.cell 2; have c3 := k0.cell 3; simp at c0 c1 c2 c3; have z1 := k0.frozen 1; have z2 := k0.frozen 2; have z3 := k0.frozen 3; have d0 := k1.cell 0; have d1 := k1.cell 1; have d2 := k1.cell 2; have d3 := k1.cell 3; simp at d0 d1 d2 d3; have y0 := k1.frozen 0; have y1 := k1.frozen 1; have y2 := k1.frozen 2; have y3 := k1.frozen 3; have N0 := Lib.hid k0; have N1 := Lib.hid k1; have Ns0 := k0.lt; have Ns1 := k1.lt; clear k0 k1))
  refine bodyPost_ret (ret_thc (T := ⟨h, u, v, 0⟩) Try.results29 rfl ((((N1.out.set 0 _).set 1 _).set 2 _).set 3 _)) rfl ⟨_, rfl, rfl, ?_⟩
  · have bw := Bw.out
    refine b_set (b_set (b_set (b_set ?_ q1 _ _) q1 _ _) q1 _ _) q1 _ _
    repeat (first | exact bw | refine b_drewN ?_ _ | refine b_drew ?_ | refine b_then ?_ (by assumption))
theorem specNew_any (X : Th) (wX : (Lit.int .i8 X.s).wf = true) (w : World) : Calls Try.prog 30 #[.agg #[.float .f32 X.h, .float .f32 X.u, .float .f32 X.v, .int .i8 X.s]] w (RThC (thIf (codeT (okT X) true) (newC (cnT X))) (codeT (okT X) true) w) := by
  obtain ⟨h, u, v, s⟩ := X
  rcases Bool.eq_false_or_eq_true (okT ⟨h, u, v, s⟩) with ht | ht
  · rw [ht, show codeT true true = 0 from rfl, show ∀ C, thIf 0 C = C from fun _ => rfl]
    exact specNew_ok h u v s ht wX w
  · rw [ht, show codeT false true = 1 from rfl, show ∀ C, thIf 1 C = th0 from fun _ => rfl]
    exact specNew_bad h u v s ht wX w
theorem specTurn_any (X : Th) (wX : (Lit.int .i8 X.s).wf = true) (w : World) : Calls Try.prog 28 #[.agg #[.float .f32 X.h, .float .f32 X.u, .float .f32 X.v, .int .i8 X.s]] w (RThC (thIf (codeT (okT X) true) (turnC (cnT X))) (codeT (okT X) true) w) := by
  obtain ⟨h, u, v, s⟩ := X
  rcases Bool.eq_false_or_eq_true (okT ⟨h, u, v, s⟩) with ht | ht
  · rw [ht, show codeT true true = 0 from rfl, show ∀ C, thIf 0 C = C from fun _ => rfl]
    rcases okT_side ht with hs | hs
    · dsimp only at hs; subst hs; exact specTurn_ok0 h u v ht wX w
    · dsimp only at hs; subst hs; exact specTurn_ok1 h u v ht wX w
  · rw [ht, show codeT false true = 1 from rfl, show ∀ C, thIf 1 C = th0 from fun _ => rfl]
    exact specTurn_bad h u v s ht wX w
theorem implNew_any (X : Th) (w : World) : Calls Try.prog 31 #[.agg #[.float .f32 X.h, .float .f32 X.u, .float .f32 X.v, .int .i8 X.s]] w (RThC (thIf (codeT (okT X) true) (newC (cnT X))) (codeT (okT X) true) w) := by
  obtain ⟨h, u, v, s⟩ := X
  rcases Bool.eq_false_or_eq_true (okT ⟨h, u, v, s⟩) with ht | ht
  · rw [ht, show codeT true true = 0 from rfl, show ∀ C, thIf 0 C = C from fun _ => rfl]
    exact implNew_ok h u v s ht w
  · rw [ht, show codeT false true = 1 from rfl, show ∀ C, thIf 1 C = th0 from fun _ => rfl]
    exact implNew_bad h u v s ht w
theorem implTurn_any (X : Th) (w : World) : Calls Try.prog 29 #[.agg #[.float .f32 X.h, .float .f32 X.u, .float .f32 X.v, .int .i8 X.s]] w (RThC (thIf (codeT (okT X) true) (turnC (cnT X))) (codeT (okT X) true) w) := by
  obtain ⟨h, u, v, s⟩ := X
  rcases Bool.eq_false_or_eq_true (okT ⟨h, u, v, s⟩) with ht | ht
  · rw [ht, show codeT true true = 0 from rfl, show ∀ C, thIf 0 C = C from fun _ => rfl]
    rcases okT_side ht with hs | hs
    · dsimp only at hs; subst hs; exact implTurn_ok0 h u v ht w
    · dsimp only at hs; subst hs; exact implTurn_ok1 h u v ht w
  · rw [ht, show codeT false true = 1 from rfl, show ∀ C, thIf 1 C = th0 from fun _ => rfl]
    exact implTurn_bad h u v s ht w
theorem specWear_any (X : Th) (wX : (Lit.int .i8 X.s).wf = true) (w : World) : Calls Try.prog 20 #[.agg #[.float .f32 X.h, .float .f32 X.u, .float .f32 X.v, .int .i8 X.s]] w (RFC (if okT X then cn (curW X) else cn 0) (codeT (okT X) true) w) := by
  have h0 := AtTh.new w X
  have hsz : w.heap.size < (w.alloc (.cells #[.float .f32 X.h, .float .f32 X.u, .float .f32 X.v, .int .i8 X.s] 28)).heap.size := by simp
  obtain ⟨t, ht⟩ : ∃ t, okT X = t := ⟨_, rfl⟩
  have hv := Lib.hid (fun w => l06Ok_is ht wX w)
  have hs := Lib.hid (fun h : t = true => okT_side (ht.trans h))
  rw [ht]
  clear ht
  have H0 := Lib.hid h0; clear h0
  cases t
  · simp only [codeT, if_true, if_false, Bool.false_eq_true]
    clear hs
    go_enter Try.func20, Try.ntmps20
    go_wp2_with (go_at_call 53; refine (hv.out _).mono ?_; rintro e w1 ⟨rfl, b1⟩)
    go_ret2
    refine ⟨_, rfl, cn_lit _, ?_⟩
    (repeat (first | exact Below.refl _ _ | refine b_drewN ?_ _ | refine b_drew ?_ | refine b_alloc ?_ _ | refine b_then ?_ (by assumption)))
  · simp only [codeT, if_true, if_false, Bool.false_eq_true]
    have hs2 := hs.out rfl
    clear hs
    obtain ⟨h, u, v, s⟩ := X
    dsimp only at hs2 hv H0 hsz ⊢
    clear wX
    rcases hs2 with rfl | rfl
    all_goals
      simp only [curW, if_true, if_false, show ¬ ((1 : Int) = 0) by decide]
      go_enter Try.func20, Try.ntmps20
      go_wp2_with (go_at_call 53; refine (hv.out _).mono ?_; rintro e w1 ⟨rfl, b1⟩; obtain ⟨c0, c1, c2, c3⟩ := (AtTh.on H0.out (by rfl) b1).cells)
      go_ret2
      refine ⟨_, rfl, cn_lit _, ?_⟩
      (repeat (first | exact Below.refl _ _ | refine b_drewN ?_ _ | refine b_drew ?_ | refine b_alloc ?_ _ | refine b_then ?_ (by assumption)))
theorem implWear_any (X : Th) (w : World) : Calls Try.prog 21 #[.agg #[.float .f32 X.h, .float .f32 X.u, .float .f32 X.v, .int .i8 X.s]] w (RFC (if okT X then cn (curW X) else cn 0) (codeT (okT X) true) w) := by
  have h0 := AtTh.new w X
  have hsz : w.heap.size < (w.alloc (.cells #[.float .f32 X.h, .float .f32 X.u, .float .f32 X.v, .int .i8 X.s] 28)).heap.size := by simp
  obtain ⟨t, ht⟩ : ∃ t, okT X = t := ⟨_, rfl⟩
  have hv := Lib.hid (fun w => validTooth_is ht w)
  have hs := Lib.hid (fun h : t = true => okT_side (ht.trans h))
  rw [ht]
  clear ht
  have H0 := Lib.hid h0; clear h0
  cases t
  · simp only [codeT, if_true, if_false, Bool.false_eq_true]
    clear hs
    go_enter Try.func21, Try.ntmps21
    go_wp2_with (go_at_call 17; refine (hv.out _).mono ?_; rintro e w1 ⟨rfl, b1⟩)
    go_ret2
    refine ⟨_, rfl, cn_lit _, ?_⟩
    (repeat (first | exact Below.refl _ _ | refine b_drewN ?_ _ | refine b_drew ?_ | refine b_alloc ?_ _ | refine b_then ?_ (by assumption)))
  · simp only [codeT, if_true, if_false, Bool.false_eq_true]
    have hs2 := hs.out rfl
    clear hs
    have hw := Lib.hid (fun w => wear_any X hs2 w)
    clear hs2
    go_enter Try.func21, Try.ntmps21
    go_wp2_with (first | (go_at_call 17; refine (hv.out _).mono ?_; rintro e w1 ⟨rfl, b1⟩; obtain ⟨c0, c1, c2, c3⟩ := (H0.out.on (by rfl) b1).cells) | (go_at_call 59; refine (hw.out _).mono ?_; rintro e w2 ⟨rfl, b2⟩))
    go_ret2
    refine ⟨_, rfl, cn_lit _, ?_⟩
    (repeat (first | exact Below.refl _ _ | refine b_drewN ?_ _ | refine b_drew ?_ | refine b_alloc ?_ _ | refine b_then ?_ (by assumption)))
end Go.Proofs.Ytndmkfmfphgckaa
