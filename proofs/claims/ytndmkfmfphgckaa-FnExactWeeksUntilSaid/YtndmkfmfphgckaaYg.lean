/-
  WornBy and WeeksUntil: both sides.
-/
import Derived.Test.YtndmkfmfphgckaaYf
import Derived.Deep.DeepCutAuto
namespace Go.Proofs.Ytndmkfmfphgckaa
open Go.RowKit Go.ChangeShapes Go.WideShapes Go.Deep
attribute [local go_sem ↓] Go.wp_at_zero Go.wp_at_succ
set_option linter.unusedVariables false
set_option linter.unusedSimpArgs false
set_option maxRecDepth 100000

theorem isPlainSize_any (m : Nat) (w : World) : Calls Try.prog 63 #[.float .f32 m] w fun e w' => e = .returned (.bool (psB m)) ∧ w = w' := by
  unfold psB oGe oLe
  go_enter Try.func63, Try.ntmps63
  go_wp2
  · go_ret
    exact ⟨rfl, rfl⟩
  · rename_i h
    go_ret
    refine ⟨?_, rfl⟩
    simp at h
    simp [h]
theorem l03Amount_any (m : Nat) (w : World) : Calls Try.prog 60 #[.float .f32 m] w fun e w' => e = .returned (.bool (psB m)) ∧ w = w' := by
  unfold psB oGe oLe
  go_enter Try.func60, Try.ntmps60
  go_wp2
  · go_ret
    exact ⟨rfl, rfl⟩
  · rename_i h
    go_ret
    refine ⟨?_, rfl⟩
    simp at h
    simp [h]
set_option maxHeartbeats 4000000 in
theorem specWornBy_any (X : Th) (l : Nat) (wX : (Lit.int .i8 X.s).wf = true) (w : World) : Calls Try.prog 23 #[.agg #[.float .f32 X.h, .float .f32 X.u, .float .f32 X.v, .int .i8 X.s], .float .f32 l] w (RThC (thIf (codeT (okT X) (psB l)) (wornX X l)) (codeT (okT X) (psB l)) w) := by
  obtain ⟨t, ht⟩ : ∃ t, okT X = t := ⟨_, rfl⟩
  obtain ⟨p, hp⟩ : ∃ p, psB l = p := ⟨_, rfl⟩
  have hv := Lib.hid (fun w => l06Ok_is ht wX w)
  have hq := fun w => l03Amount_any l w
  rw [hp] at hq ⊢
  have hw := Lib.hid (fun (h : t = true) w => specWorn_any X l (okT_side (ht.trans h)) w)
  have HQ := Lib.hid hq
  rw [ht]
  clear ht hp hq wX
  cases t
  · have e1 : codeT false p = 1 := by cases p <;> rfl
    rw [e1, show ∀ C, thIf 1 C = th0 from fun _ => rfl]
    clear e1 hw
    obtain ⟨k0, k1, bw⟩ := boxT_two w X; have hs0 : w.heap.size < ((w.alloc (.cells #[.float .f32 X.h, .float .f32 X.u, .float .f32 X.v, .int .i8 X.s] 28)).alloc (.cells #[.float .f32 0, .float .f32 0, .float .f32 0, .int .i8 0] 28)).heap.size := k0.lt; have hs1 : w.heap.size + 1 < ((w.alloc (.cells #[.float .f32 X.h, .float .f32 X.u, .float .f32 X.v, .int .i8 X.s] 28)).alloc (.cells #[.float .f32 0, .float .f32 0, .float .f32 0, .int .i8 0] 28)).heap.size := k1.lt; have K0 := Lib.hid k0; have K1 := Lib.hid k1; have Bw := Lib.hid bw; clear bw
    have hne : w.heap.size + 1 ≠ w.heap.size := by omega
    have q0 : w.heap.size ≤ w.heap.size := Nat.le_refl _
    have q1 : w.heap.size ≤ w.heap.size + 1 := by omega
    go_enter Try.func23, Try.ntmps23
    go_upto_region 1 with fail
    generalize ((w.alloc (.cells #[.float .f32 X.h, .float .f32 X.u, .float .f32 X.v, .int .i8 X.s] 28)).alloc (.cells #[.float .f32 0, .float .f32 0, .float .f32 0, .int .i8 0] 28)) = W at *; have c0 := k0.cell 0; have c1 := k0.cell 1; have c2 := k0.cell 2; have c3 := k0.cell 3; simp at c0 c1 c2 c3; have z1 := k0.frozen 1; have z2 := k0.frozen 2; have z3 := k0.frozen 3; have d0 := k1.cell 0; have d1 := k1.cell 1; have d2 := k1.cell 2; have d3 := k1.cell 3; simp at d0 d1 d2 d3; have y0 := k1.frozen 0; have y1 := k1.frozen 1; have y2 := k1.frozen 2; have y3 := k1.frozen 3; clear k0 k1
    go_wp2_with (go_at_call 53; refine (hv.out _).mono ?_; rintro e w1 ⟨rfl, b1⟩; have k0 := Blk.on K0.out (by rfl) b1; have k1 := Blk.on K1.out (by rfl) b1; clear c0 c1 c2 c3 d0 d1 d2 d3 z1 z2 z3 y0 y1 y2 y3; have c0 := k0.cell 0; have c1 := k0.cell 1; have c2 := k0.cell 2; have c3 := k0.cell 3; simp at c0 c1 c2 c3; have z1 := k0.frozen 1; have z2 := k0.frozen 2; have z3 := k0.frozen 3; have d0 := k1.cell 0; have d1 := k1.cell 1; have d2 := k1.cell 2; have d3 := k1.cell 3; simp at d0 d1 d2 d3; have y0 := k1.frozen 0; have y1 := k1.frozen 1; have y2 := k1.frozen 2; have y3 := k1.frozen 3; have M0 := Lib.hid k0; have M1 := Lib.hid k1; have Ms0 := k0.lt; have Ms1 := k1.lt; clear k0 k1)
    refine bodyPost_ret (ret_thc (T := ⟨0, 0, 0, 0⟩) Try.results23 rfl ((((M1.out.set 0 _).set 1 _).set 2 _).set 3 _)) rfl ⟨_, rfl, is_th0, ?_⟩
    have bw := Bw.out
    refine b_set (b_set (b_set (b_set ?_ q1 _ _) q1 _ _) q1 _ _) q1 _ _
    repeat (first | exact bw | refine b_drewN ?_ _ | refine b_drew ?_ | refine b_then ?_ (by assumption))
  · cases p
    · rw [show codeT true false = 2 from rfl, show ∀ C, thIf 2 C = th0 from fun _ => rfl]
      clear hw
      obtain ⟨k0, k1, bw⟩ := boxT_two w X; have hs0 : w.heap.size < ((w.alloc (.cells #[.float .f32 X.h, .float .f32 X.u, .float .f32 X.v, .int .i8 X.s] 28)).alloc (.cells #[.float .f32 0, .float .f32 0, .float .f32 0, .int .i8 0] 28)).heap.size := k0.lt; have hs1 : w.heap.size + 1 < ((w.alloc (.cells #[.float .f32 X.h, .float .f32 X.u, .float .f32 X.v, .int .i8 X.s] 28)).alloc (.cells #[.float .f32 0, .float .f32 0, .float .f32 0, .int .i8 0] 28)).heap.size := k1.lt; have K0 := Lib.hid k0; have K1 := Lib.hid k1; have Bw := Lib.hid bw; clear bw
      have hne : w.heap.size + 1 ≠ w.heap.size := by omega
      have q0 : w.heap.size ≤ w.heap.size := Nat.le_refl _
      have q1 : w.heap.size ≤ w.heap.size + 1 := by omega
      go_enter Try.func23, Try.ntmps23
      go_upto_region 1 with fail
      generalize ((w.alloc (.cells #[.float .f32 X.h, .float .f32 X.u, .float .f32 X.v, .int .i8 X.s] 28)).alloc (.cells #[.float .f32 0, .float .f32 0, .float .f32 0, .int .i8 0] 28)) = W at *; have c0 := k0.cell 0; have c1 := k0.cell 1; have c2 := k0.cell 2; have c3 := k0.cell 3; simp at c0 c1 c2 c3; have z1 := k0.frozen 1; have z2 := k0.frozen 2; have z3 := k0.frozen 3; have d0 := k1.cell 0; have d1 := k1.cell 1; have d2 := k1.cell 2; have d3 := k1.cell 3; simp at d0 d1 d2 d3; have y0 := k1.frozen 0; have y1 := k1.frozen 1; have y2 := k1.frozen 2; have y3 := k1.frozen 3; clear k0 k1
      go_wp2_with (first | (go_at_call 53; refine (hv.out _).mono ?_; rintro e w1 ⟨rfl, b1⟩; have k0 := Blk.on K0.out (by rfl) b1; have k1 := Blk.on K1.out (by rfl) b1; clear c0 c1 c2 c3 d0 d1 d2 d3 z1 z2 z3 y0 y1 y2 y3; have c0 := k0.cell 0; have c1 := k0.cell 1; have c2 := k0.cell 2; have c3 := k0.cell 3; simp at c0 c1 c2 c3; have z1 := k0.frozen 1; have z2 := k0.frozen 2; have z3 := k0.frozen 3; have d0 := k1.cell 0; have d1 := k1.cell 1; have d2 := k1.cell 2; have d3 := k1.cell 3; simp at d0 d1 d2 d3; have y0 := k1.frozen 0; have y1 := k1.frozen 1; have y2 := k1.frozen 2; have y3 := k1.frozen 3; have M0 := Lib.hid k0; have M1 := Lib.hid k1; have Ms0 := k0.lt; have Ms1 := k1.lt; clear k0 k1) | (go_at_call 60; refine (HQ.out _).mono ?_; rintro e w4 ⟨rfl, rfl⟩))
      refine bodyPost_ret (ret_thc (T := ⟨0, 0, 0, 0⟩) Try.results23 rfl ((((M1.out.set 0 _).set 1 _).set 2 _).set 3 _)) rfl ⟨_, rfl, is_th0, ?_⟩
      have bw := Bw.out
      refine b_set (b_set (b_set (b_set ?_ q1 _ _) q1 _ _) q1 _ _) q1 _ _
      repeat (first | exact bw | refine b_drewN ?_ _ | refine b_drew ?_ | refine b_then ?_ (by assumption))
    · rw [show codeT true true = 0 from rfl, show ∀ C, thIf 0 C = C from fun _ => rfl]
      have hw2 := Lib.hid (hw.out rfl)
      clear hw
      obtain ⟨k0, k1, bw⟩ := boxT_two w X; have hs0 : w.heap.size < ((w.alloc (.cells #[.float .f32 X.h, .float .f32 X.u, .float .f32 X.v, .int .i8 X.s] 28)).alloc (.cells #[.float .f32 0, .float .f32 0, .float .f32 0, .int .i8 0] 28)).heap.size := k0.lt; have hs1 : w.heap.size + 1 < ((w.alloc (.cells #[.float .f32 X.h, .float .f32 X.u, .float .f32 X.v, .int .i8 X.s] 28)).alloc (.cells #[.float .f32 0, .float .f32 0, .float .f32 0, .int .i8 0] 28)).heap.size := k1.lt; have K0 := Lib.hid k0; have K1 := Lib.hid k1; have Bw := Lib.hid bw; clear bw
      have hne : w.heap.size + 1 ≠ w.heap.size := by omega
      have q0 : w.heap.size ≤ w.heap.size := Nat.le_refl _
      have q1 : w.heap.size ≤ w.heap.size + 1 := by omega
      go_enter Try.func23, Try.ntmps23
      go_upto_region 1 with fail
      generalize ((w.alloc (.cells #[.float .f32 X.h, .float .f32 X.u, .float .f32 X.v, .int .i8 X.s] 28)).alloc (.cells #[.float .f32 0, .float .f32 0, .float .f32 0, .int .i8 0] 28)) = W at *; have c0 := k0.cell 0; have c1 := k0.cell 1; have c2 := k0.cell 2; have c3 := k0.cell 3; simp at c0 c1 c2 c3; have z1 := k0.frozen 1; have z2 := k0.frozen 2; have z3 := k0.frozen 3; have d0 := k1.cell 0; have d1 := k1.cell 1; have d2 := k1.cell 2; have d3 := k1.cell 3; simp at d0 d1 d2 d3; have y0 := k1.frozen 0; have y1 := k1.frozen 1; have y2 := k1.frozen 2; have y3 := k1.frozen 3; clear k0 k1
      go_wp2_with (first | (go_at_call 53; refine (hv.out _).mono ?_; rintro e w1 ⟨rfl, b1⟩; have k0 := Blk.on K0.out (by rfl) b1; have k1 := Blk.on K1.out (by rfl) b1; clear c0 c1 c2 c3 d0 d1 d2 d3 z1 z2 z3 y0 y1 y2 y3; have c0 := k0.cell 0; have c1 := k0.cell 1; have c2 := k0.cell 2; have c3 := k0.cell 3; simp at c0 c1 c2 c3; have z1 := k0.frozen 1; have z2 := k0.frozen 2; have z3 := k0.frozen 3; have d0 := k1.cell 0; have d1 := k1.cell 1; have d2 := k1.cell 2; have d3 := k1.cell 3; simp at d0 d1 d2 d3; have y0 := k1.frozen 0; have y1 := k1.frozen 1; have y2 := k1.frozen 2; have y3 := k1.frozen 3; have M0 := Lib.hid k0; have M1 := Lib.hid k1; have Ms0 := k0.lt; have Ms1 := k1.lt; clear k0 k1) | (go_at_call 60; refine (HQ.out _).mono ?_; rintro e w4 ⟨rfl, rfl⟩) | (go_at_call 61; refine (hw2.out _).mono ?_; rintro e w2 ⟨T, rfl, hT, b2⟩; have k0 := Blk.on M0.out (by rfl) b2; have k1 := Blk.on M1.out (by rfl) b2; clear c0 c1 c2 c3 d0 d1 d2 d3 z1 z2 z3 y0 y1 y2 y3; have c0 := k0.cell 0; have c1 := k0.cell 1; have c2 := k0.cell 2; have c3 := k0.cell 3; simp at c0 c1 c2 c3; have z1 := k0.frozen 1; have z2 := k0.frozen 2; have z3 := k0.frozen 3; have d0 := k1.cell 0; have d1 := k1.cell 1; have d2 := k1.cell 2; have d3 := k1.cell 3; simp at d0 d1 d2 d3; have y0 := k1.frozen 0; have y1 := k1.frozen 1; have y2 := k1.frozen 2; have y3 := k1.frozen 3; have N0 := Lib.hid k0; have N1 := Lib.hid k1; have Ns0 := k0.lt; have Ns1 := k1.lt; clear k0 k1))
      refine bodyPost_ret (ret_thc (T := T) Try.results23 rfl ((((N1.out.set 0 _).set 1 _).set 2 _).set 3 _)) rfl ⟨_, rfl, hT, ?_⟩
      have bw := Bw.out
      refine b_set (b_set (b_set (b_set ?_ q1 _ _) q1 _ _) q1 _ _) q1 _ _
      repeat (first | exact bw | refine b_drewN ?_ _ | refine b_drew ?_ | refine b_then ?_ (by assumption))
set_option maxHeartbeats 4000000 in
theorem implWornBy_any (X : Th) (l : Nat) (w : World) : Calls Try.prog 24 #[.agg #[.float .f32 X.h, .float .f32 X.u, .float .f32 X.v, .int .i8 X.s], .float .f32 l] w (RThC (thIf (codeT (okT X) (psB l)) (wornX X l)) (codeT (okT X) (psB l)) w) := by
  have hd : Hid (codeT (okT X) (psB l) = 0 → ∀ w, Calls Try.prog 64 #[.agg #[.float .f32 X.h, .float .f32 X.u, .float .f32 X.v, .int .i8 X.s], .float .f32 l] w (RTh (wornX X l) w)) := fun h => by
    have : okT X = true := by
      unfold codeT at h
      cases h1 : okT X <;> cases h2 : psB l <;> simp_all
    exact implWorn_any X l (okT_side this)
  obtain ⟨t, ht⟩ : ∃ t, psB l = t := ⟨_, rfl⟩
  have hp := fun w => isPlainSize_any l w
  rw [ht] at hp hd ⊢
  have HP := Lib.hid hp
  have HC := Lib.hid (fun w => toothError_any X t w)
  obtain ⟨K, hK⟩ : ∃ K, codeT (okT X) t = K := ⟨_, rfl⟩
  rw [hK] at HC hd ⊢
  have HK := Lib.hid (codeT_cases hK)
  clear hK hp ht
  obtain ⟨k0, k1, bw⟩ := boxT_two w X; have hs0 : w.heap.size < ((w.alloc (.cells #[.float .f32 X.h, .float .f32 X.u, .float .f32 X.v, .int .i8 X.s] 28)).alloc (.cells #[.float .f32 0, .float .f32 0, .float .f32 0, .int .i8 0] 28)).heap.size := k0.lt; have hs1 : w.heap.size + 1 < ((w.alloc (.cells #[.float .f32 X.h, .float .f32 X.u, .float .f32 X.v, .int .i8 X.s] 28)).alloc (.cells #[.float .f32 0, .float .f32 0, .float .f32 0, .int .i8 0] 28)).heap.size := k1.lt; have K0 := Lib.hid k0; have K1 := Lib.hid k1; have Bw := Lib.hid bw; clear bw
  have hne : w.heap.size + 1 ≠ w.heap.size := by omega
  have q0 : w.heap.size ≤ w.heap.size := Nat.le_refl _
  have q1 : w.heap.size ≤ w.heap.size + 1 := by omega
  go_enter Try.func24, Try.ntmps24
  go_upto_region 1 with fail
  generalize ((w.alloc (.cells #[.float .f32 X.h, .float .f32 X.u, .float .f32 X.v, .int .i8 X.s] 28)).alloc (.cells #[.float .f32 0, .float .f32 0, .float .f32 0, .int .i8 0] 28)) = W at *; have c0 := k0.cell 0; have c1 := k0.cell 1; have c2 := k0.cell 2; have c3 := k0.cell 3; simp at c0 c1 c2 c3; have z1 := k0.frozen 1; have z2 := k0.frozen 2; have z3 := k0.frozen 3; have d0 := k1.cell 0; have d1 := k1.cell 1; have d2 := k1.cell 2; have d3 := k1.cell 3; simp at d0 d1 d2 d3; have y0 := k1.frozen 0; have y1 := k1.frozen 1; have y2 := k1.frozen 2; have y3 := k1.frozen 3; clear k0 k1
  go_cut [6] (fun s6 wx => s6 = .int .i64 K ∧ Below W.heap.size W wx)
  case first =>
    go_region_law (first | (go_simp; go_at_call 63; refine (HP.out _).mono ?_; rintro e w1 ⟨rfl, rfl⟩; dsimp only) | (go_simp; go_at_call 62; refine (HC.out _).mono ?_; rintro e w1 ⟨rfl, b1⟩; have k0 := Blk.on K0.out (by rfl) b1; have k1 := Blk.on K1.out (by rfl) b1; clear c0 c1 c2 c3 d0 d1 d2 d3 z1 z2 z3 y0 y1 y2 y3; have c0 := k0.cell 0; have c1 := k0.cell 1; have c2 := k0.cell 2; have c3 := k0.cell 3; simp at c0 c1 c2 c3; have z1 := k0.frozen 1; have z2 := k0.frozen 2; have z3 := k0.frozen 3; have d0 := k1.cell 0; have d1 := k1.cell 1; have d2 := k1.cell 2; have d3 := k1.cell 3; simp at d0 d1 d2 d3; have y0 := k1.frozen 0; have y1 := k1.frozen 1; have y2 := k1.frozen 2; have y3 := k1.frozen 3; have M0 := Lib.hid k0; have M1 := Lib.hid k1; have Ms0 := k0.lt; have Ms1 := k1.lt; clear k0 k1; dsimp only))
    all_goals
      go_wp2_with fail
      go_meet
      refine ⟨rfl, ?_⟩
      repeat (first | exact Below.refl W.heap.size W | refine b_drewN ?_ _ | refine b_drew ?_ | refine b_then ?_ (by assumption))
  case rest =>
    obtain ⟨rfl, hbc⟩ := hcut
    have k0 := Blk.on K0.out (by rfl) hbc
    have k1 := Blk.on K1.out (by rfl) hbc
    have BC := Lib.hid (b_then Bw.out hbc)
    clear c0 c1 c2 c3 d0 d1 d2 d3 z1 z2 z3 y0 y1 y2 y3; have c0 := k0.cell 0; have c1 := k0.cell 1; have c2 := k0.cell 2; have c3 := k0.cell 3; simp at c0 c1 c2 c3; have z1 := k0.frozen 1; have z2 := k0.frozen 2; have z3 := k0.frozen 3; have d0 := k1.cell 0; have d1 := k1.cell 1; have d2 := k1.cell 2; have d3 := k1.cell 3; simp at d0 d1 d2 d3; have y0 := k1.frozen 0; have y1 := k1.frozen 1; have y2 := k1.frozen 2; have y3 := k1.frozen 3
    have M0 := Lib.hid k0; have M1 := Lib.hid k1; have ms0 := k0.lt; have ms1 := k1.lt
    clear k0 k1 hbc
    rcases HK.out with rfl | rfl | rfl
    · have hw2 := Lib.hid (hd.out rfl)
      clear hd
      go_wp2_with (go_at_call 64; refine (hw2.out _).mono ?_; rintro e w2 ⟨T, rfl, hT, b2⟩; have k0 := Blk.on M0.out (by rfl) b2; have k1 := Blk.on M1.out (by rfl) b2; clear c0 c1 c2 c3 d0 d1 d2 d3 z1 z2 z3 y0 y1 y2 y3; have c0 := k0.cell 0; have c1 := k0.cell 1; have c2 := k0.cell 2; have c3 := k0.cell 3; simp at c0 c1 c2 c3; have z1 := k0.frozen 1; have z2 := k0.frozen 2; have z3 := k0.frozen 3; have d0 := k1.cell 0; have d1 := k1.cell 1; have d2 := k1.cell 2; have d3 := k1.cell 3; simp at d0 d1 d2 d3; have y0 := k1.frozen 0; have y1 := k1.frozen 1; have y2 := k1.frozen 2; have y3 := k1.frozen 3; have N0 := Lib.hid k0; have N1 := Lib.hid k1; have Ns0 := k0.lt; have Ns1 := k1.lt; clear k0 k1)
      refine bodyPost_ret (ret_thc (T := T) Try.results24 rfl ((((N1.out.set 0 _).set 1 _).set 2 _).set 3 _)) rfl ⟨_, rfl, hT, ?_⟩
      have bw := BC.out
      refine b_set (b_set (b_set (b_set ?_ q1 _ _) q1 _ _) q1 _ _) q1 _ _
      repeat (first | exact bw | refine b_drewN ?_ _ | refine b_drew ?_ | refine b_then ?_ (by assumption))
    all_goals
      clear hd
      go_wp2
      refine bodyPost_ret (ret_thc (T := ⟨0, 0, 0, 0⟩) Try.results24 rfl ((((M1.out.set 0 _).set 1 _).set 2 _).set 3 _)) rfl ⟨_, rfl, is_th0, ?_⟩
      have bw := BC.out
      refine b_set (b_set (b_set (b_set ?_ q1 _ _) q1 _ _) q1 _ _) q1 _ _
      repeat (first | exact bw | refine b_drewN ?_ _ | refine b_drew ?_ | refine b_then ?_ (by assumption))
end Go.Proofs.Ytndmkfmfphgckaa
