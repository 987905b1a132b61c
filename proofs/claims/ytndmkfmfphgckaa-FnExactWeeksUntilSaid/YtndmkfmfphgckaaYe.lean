/-
  A worn tooth: the program's function.
-/
import Derived.Test.YtndmkfmfphgckaaYc
import Derived.Deep.RegionLaw
namespace Go.Proofs.Ytndmkfmfphgckaa
open Go.RowKit Go.ChangeShapes Go.WideShapes Go.Deep
attribute [local go_sem ↓] Go.wp_at_zero Go.wp_at_succ
set_option linter.unusedVariables false
set_option linter.unusedSimpArgs false
set_option maxRecDepth 100000

set_option maxHeartbeats 4000000 in
theorem implWorn0 (h u v l : Nat) (w : World) : Calls Try.prog 64 #[.agg #[.float .f32 h, .float .f32 u, .float .f32 v, .int .i8 0], .float .f32 l] w (RTh ⟨cn h, wearC (cn h) (cn u) (cn l), cn v, 0⟩ w) := by
  obtain ⟨R, N, hR, hC⟩ := ops_fun Try.prog 22; have ra := hR .add rfl; have rs := hR .sub rfl; have rm := hR .mul rfl; have rq := hR .quo rfl; have HC := Lib.hid hC; clear hC hR
  obtain ⟨M, NM, hM, hMc⟩ := min_fun Try.prog
  have HM := Lib.hid hMc; clear hMc
  have hw := fun w => wear_any ⟨h, u, v, 0⟩ (by simp) w
  simp only [curW, if_true, if_false, show ¬ ((1 : Int) = 0) by decide] at hw
  have HW := Lib.hid hw; clear hw
  obtain ⟨k0, k1, bw⟩ := boxT_two w ⟨h, u, v, 0⟩
  have hs0 : w.heap.size < ((w.alloc (.cells #[.float .f32 h, .float .f32 u, .float .f32 v, .int .i8 0] 28)).alloc (.cells #[.float .f32 0, .float .f32 0, .float .f32 0, .int .i8 0] 28)).heap.size := k0.lt
  have hs1 : w.heap.size + 1 < ((w.alloc (.cells #[.float .f32 h, .float .f32 u, .float .f32 v, .int .i8 0] 28)).alloc (.cells #[.float .f32 0, .float .f32 0, .float .f32 0, .int .i8 0] 28)).heap.size := k1.lt
  have K0 := Lib.hid k0; have K1 := Lib.hid k1; have Bw := Lib.hid bw; clear bw
  have hne : w.heap.size + 1 ≠ w.heap.size := by omega
  have q0 : w.heap.size ≤ w.heap.size := Nat.le_refl _
  have q1 : w.heap.size ≤ w.heap.size + 1 := by omega
  go_enter Try.func64, Try.ntmps64
  go_upto_region 1 with fail
  generalize ((w.alloc (.cells #[.float .f32 h, .float .f32 u, .float .f32 v, .int .i8 0] 28)).alloc (.cells #[.float .f32 0, .float .f32 0, .float .f32 0, .int .i8 0] 28)) = W at *
  have c0 := k0.cell 0; have c1 := k0.cell 1; have c2 := k0.cell 2; have c3 := k0.cell 3; simp at c0 c1 c2 c3; have z1 := k0.frozen 1; have z2 := k0.frozen 2; have z3 := k0.frozen 3; have d0 := k1.cell 0; have d1 := k1.cell 1; have d2 := k1.cell 2; have d3 := k1.cell 3; simp at d0 d1 d2 d3; have y0 := k1.frozen 0; have y1 := k1.frozen 1; have y2 := k1.frozen 2; have y3 := k1.frozen 3
  clear k0 k1
  go_wp2_with (go_at_call 59; refine (HW.out _).mono ?_; rintro e w1 ⟨rfl, b1⟩; have k0 := Blk.on K0.out (by rfl) b1; have k1 := Blk.on K1.out (by rfl) b1; clear c0 c1 c2 c3 d0 d1 d2 d3 z1 z2 z3 y0 y1 y2 y3; have c0 := k0.cell 0; have c1 := k0.cell 1; have c2 := k0.cell 2; have c3 := k0.cell 3; simp at c0 c1 c2 c3; have z1 := k0.frozen 1; have z2 := k0.frozen 2; have z3 := k0.frozen 3; have d0 := k1.cell 0; have d1 := k1.cell 1; have d2 := k1.cell 2; have d3 := k1.cell 3; simp at d0 d1 d2 d3; have y0 := k1.frozen 0; have y1 := k1.frozen 1; have y2 := k1.frozen 2; have y3 := k1.frozen 3; have M0 := Lib.hid k0; have M1 := Lib.hid k1; have ms0 := k0.lt; have ms1 := k1.lt; clear k0 k1)
  go_region_law (go_simp; go_at_call 59; refine (HW.out _).mono ?_; rintro e w2 ⟨rfl, b2⟩; have k0 := Blk.on M0.out (by rfl) b2; have k1 := Blk.on M1.out (by rfl) b2; clear c0 c1 c2 c3 d0 d1 d2 d3 z1 z2 z3 y0 y1 y2 y3; have c0 := k0.cell 0; have c1 := k0.cell 1; have c2 := k0.cell 2; have c3 := k0.cell 3; simp at c0 c1 c2 c3; have z1 := k0.frozen 1; have z2 := k0.frozen 2; have z3 := k0.frozen 3; have d0 := k1.cell 0; have d1 := k1.cell 1; have d2 := k1.cell 2; have d3 := k1.cell 3; simp at d0 d1 d2 d3; have y0 := k1.frozen 0; have y1 := k1.frozen 1; have y2 := k1.frozen 2; have y3 := k1.frozen 3; have N0 := Lib.hid k0; have N1 := Lib.hid k1; have ns0 := k0.lt; have ns1 := k1.lt; clear k0 k1; dsimp only)
  all_goals
    go_wp2
    refine bodyPost_ret (ret_th (T := ⟨h, _, v, 0⟩) Try.results64 rfl ((((((N1.out.draws _).setO hne 1 _).set 0 _).set 1 _).set 2 _).set 3 _)) rfl ⟨_, rfl, ?_, ?_⟩
    · unfold ThIs cnT wearC
      dsimp only
      rw [HM.out, HC.out .add rfl, HC.out .quo rfl, HC.out .mul rfl, HC.out .add rfl, capW_fmin]
    · have bw := Bw.out
      refine b_set (b_set (b_set (b_set (b_set ?_ q0 _ _) q1 _ _) q1 _ _) q1 _ _) q1 _ _
      repeat (first | exact bw | refine b_drewN ?_ _ | refine b_drew ?_ | refine b_then ?_ (by assumption))
set_option maxHeartbeats 4000000 in
theorem implWorn1 (h u v l : Nat) (w : World) : Calls Try.prog 64 #[.agg #[.float .f32 h, .float .f32 u, .float .f32 v, .int .i8 1], .float .f32 l] w (RTh ⟨cn h, cn u, wearC (cn h) (cn v) (cn l), 1⟩ w) := by
  obtain ⟨R, N, hR, hC⟩ := ops_fun Try.prog 22; have ra := hR .add rfl; have rs := hR .sub rfl; have rm := hR .mul rfl; have rq := hR .quo rfl; have HC := Lib.hid hC; clear hC hR
  obtain ⟨M, NM, hM, hMc⟩ := min_fun Try.prog
  have HM := Lib.hid hMc; clear hMc
  have hw := fun w => wear_any ⟨h, u, v, 1⟩ (by simp) w
  simp only [curW, if_true, if_false, show ¬ ((1 : Int) = 0) by decide] at hw
  have HW := Lib.hid hw; clear hw
  obtain ⟨k0, k1, bw⟩ := boxT_two w ⟨h, u, v, 1⟩
  have hs0 : w.heap.size < ((w.alloc (.cells #[.float .f32 h, .float .f32 u, .float .f32 v, .int .i8 1] 28)).alloc (.cells #[.float .f32 0, .float .f32 0, .float .f32 0, .int .i8 0] 28)).heap.size := k0.lt
  have hs1 : w.heap.size + 1 < ((w.alloc (.cells #[.float .f32 h, .float .f32 u, .float .f32 v, .int .i8 1] 28)).alloc (.cells #[.float .f32 0, .float .f32 0, .float .f32 0, .int .i8 0] 28)).heap.size := k1.lt
  have K0 := Lib.hid k0; have K1 := Lib.hid k1; have Bw := Lib.hid bw; clear bw
  have hne : w.heap.size + 1 ≠ w.heap.size := by omega
  have q0 : w.heap.size ≤ w.heap.size := Nat.le_refl _
  have q1 : w.heap.size ≤ w.heap.size + 1 := by omega
  go_enter Try.func64, Try.ntmps64
  go_upto_region 1 with fail
  generalize ((w.alloc (.cells #[.float .f32 h, .float .f32 u, .float .f32 v, .int .i8 1] 28)).alloc (.cells #[.float .f32 0, .float .f32 0, .float .f32 0, .int .i8 0] 28)) = W at *
  have c0 := k0.cell 0; have c1 := k0.cell 1; have c2 := k0.cell 2; have c3 := k0.cell 3; simp at c0 c1 c2 c3; have z1 := k0.frozen 1; have z2 := k0.frozen 2; have z3 := k0.frozen 3; have d0 := k1.cell 0; have d1 := k1.cell 1; have d2 := k1.cell 2; have d3 := k1.cell 3; simp at d0 d1 d2 d3; have y0 := k1.frozen 0; have y1 := k1.frozen 1; have y2 := k1.frozen 2; have y3 := k1.frozen 3
  clear k0 k1
  go_wp2_with (go_at_call 59; refine (HW.out _).mono ?_; rintro e w1 ⟨rfl, b1⟩; have k0 := Blk.on K0.out (by rfl) b1; have k1 := Blk.on K1.out (by rfl) b1; clear c0 c1 c2 c3 d0 d1 d2 d3 z1 z2 z3 y0 y1 y2 y3; have c0 := k0.cell 0; have c1 := k0.cell 1; have c2 := k0.cell 2; have c3 := k0.cell 3; simp at c0 c1 c2 c3; have z1 := k0.frozen 1; have z2 := k0.frozen 2; have z3 := k0.frozen 3; have d0 := k1.cell 0; have d1 := k1.cell 1; have d2 := k1.cell 2; have d3 := k1.cell 3; simp at d0 d1 d2 d3; have y0 := k1.frozen 0; have y1 := k1.frozen 1; have y2 := k1.frozen 2; have y3 := k1.frozen 3; have M0 := Lib.hid k0; have M1 := Lib.hid k1; have ms0 := k0.lt; have ms1 := k1.lt; clear k0 k1)
  go_region_law (go_simp; go_at_call 59; refine (HW.out _).mono ?_; rintro e w2 ⟨rfl, b2⟩; have k0 := Blk.on M0.out (by rfl) b2; have k1 := Blk.on M1.out (by rfl) b2; clear c0 c1 c2 c3 d0 d1 d2 d3 z1 z2 z3 y0 y1 y2 y3; have c0 := k0.cell 0; have c1 := k0.cell 1; have c2 := k0.cell 2; have c3 := k0.cell 3; simp at c0 c1 c2 c3; have z1 := k0.frozen 1; have z2 := k0.frozen 2; have z3 := k0.frozen 3; have d0 := k1.cell 0; have d1 := k1.cell 1; have d2 := k1.cell 2; have d3 := k1.cell 3; simp at d0 d1 d2 d3; have y0 := k1.frozen 0; have y1 := k1.frozen 1; have y2 := k1.frozen 2; have y3 := k1.frozen 3; have N0 := Lib.hid k0; have N1 := Lib.hid k1; have ns0 := k0.lt; have ns1 := k1.lt; clear k0 k1; dsimp only)
  all_goals
    go_wp2
    refine bodyPost_ret (ret_th (T := ⟨h, u, _, 1⟩) Try.results64 rfl ((((((N1.out.draws _).setO hne 2 _).set 0 _).set 1 _).set 2 _).set 3 _)) rfl ⟨_, rfl, ?_, ?_⟩
    · unfold ThIs cnT wearC
      dsimp only
      rw [HM.out, HC.out .add rfl, HC.out .quo rfl, HC.out .mul rfl, HC.out .add rfl, capW_fmin]
    · have bw := Bw.out
      refine b_set (b_set (b_set (b_set (b_set ?_ q0 _ _) q1 _ _) q1 _ _) q1 _ _) q1 _ _
      repeat (first | exact bw | refine b_drewN ?_ _ | refine b_drew ?_ | refine b_then ?_ (by assumption))
theorem implWorn_any (X : Th) (l : Nat) (hs : X.s = 0 ∨ X.s = 1) (w : World) : Calls Try.prog 64 #[.agg #[.float .f32 X.h, .float .f32 X.u, .float .f32 X.v, .int .i8 X.s], .float .f32 l] w (RTh (wornX X l) w) := by
  obtain ⟨h, u, v, s⟩ := X
  dsimp only at hs ⊢
  rcases hs with rfl | rfl
  · exact implWorn0 h u v l w
  · exact implWorn1 h u v l w
end Go.Proofs.Ytndmkfmfphgckaa
