/-
  The gate behind a tick: the program's functions and the model's.
-/
import Derived.Test.YtajifkbpjabciabDoorTe
namespace Go.Proofs.YtajifkbpjabciabDoor
open Go.RowKit Go.ChangeShapes Go.WideShapes Go.Deep
attribute [local go_sem ↓] Go.wp_at_zero Go.wp_at_succ
set_option linter.unusedVariables false
set_option linter.unusedSimpArgs false
set_option maxRecDepth 100000
def gateN (G : Gv) (S : Se) : Int := if oGt S.s G.hi then (if S.g - 1 < 0 then 0 else S.g - 1) else if oLt S.s G.lo then (if 16 < S.g + 1 then 16 else S.g + 1) else S.g
theorem gateN_in {G : Gv} {S : Se} (g0 : 0 ≤ S.g) (g1 : S.g ≤ 16) : 0 ≤ gateN G S ∧ gateN G S ≤ 16 := by
  unfold gateN
  split
  · split <;> omega
  · split
    · split <;> omega
    · omega
theorem i8_small {z : Int} (h0 : -1 ≤ z) (h1 : z ≤ 17) : IntKind.i8.wrap z = z := by
  unfold IntKind.wrap
  simp [IntKind.signed, IntKind.bits]
  omega
theorem i64_small {z : Int} (h0 : -1 ≤ z) (h1 : z ≤ 17) : IntKind.i64.wrap z = z := by
  unfold IntKind.wrap
  simp [IntKind.signed, IntKind.bits]
  omega
theorem gateBehind_any (G : Gv) (S : Se) (p : Nat) (g0 : 0 ≤ S.g) (g1 : S.g ≤ 16) (w : World) : Calls Tryd.prog 42 #[.agg #[.int .i16 G.mb, .float .f32 G.mh, .float .f32 G.mr, .int .i16 G.mb, .float .f32 G.mh, .float .f32 G.mr, .float .f32 G.ar, .float .f32 G.he, .float .f32 G.lo, .float .f32 G.hi, .float .f32 G.ine, .map (some p)], .agg #[.float .f32 S.s, .int .i8 S.g]] w (RV (.int .i8 (gateN G S)) w) := by
  have h1 := i8_small (z := S.g - 1) (by omega) (by omega)
  have h2 := i8_small (z := S.g + 1) (by omega) (by omega)
  unfold gateN
  rcases Bool.eq_false_or_eq_true (oGt S.s G.hi) with hk | hk <;> rcases Bool.eq_false_or_eq_true (oLt S.s G.lo) with hs | hs
  all_goals
    simp only [hk, hs, if_true, if_false, Bool.false_eq_true]
    unfold oGt at hk
    unfold oLt at hs
    go_enter Tryd.func42, Tryd.ntmps42
    go_wp2
    all_goals
      go_ret
      refine ⟨?_, ?_⟩
      · first | rfl | (congr 2; (repeat split) <;> omega) | (congr 2; split <;> omega) | (simp_all; done)
      (repeat (first | exact Below.refl _ _ | refine b_drewN ?_ _ | refine b_drew ?_ | refine b_alloc ?_ _ | refine b_then ?_ (by assumption)))
theorem l00Max_any (a b : Int) (w : World) : Calls Tryd.prog 67 #[.int .i64 a, .int .i64 b] w fun e w' => e = .returned (.int .i64 (if b < a then a else b)) ∧ w = w' := by
  by_cases h : b < a
  all_goals
    go_enter Tryd.func67, Tryd.ntmps67
    go_wp2
    all_goals
      go_ret
      exact ⟨by simp [h], rfl⟩
theorem l00Min_any (a b : Int) (w : World) : Calls Tryd.prog 68 #[.int .i64 a, .int .i64 b] w fun e w' => e = .returned (.int .i64 (if a < b then a else b)) ∧ w = w' := by
  by_cases h : a < b
  all_goals
    go_enter Tryd.func68, Tryd.ntmps68
    go_wp2
    all_goals
      go_ret
      exact ⟨by simp [h], rfl⟩
theorem l03Gate_any (G : Gv) (S : Se) (wS : (Lit.int .i8 S.g).wf = true) (g0 : 0 ≤ S.g) (g1 : S.g ≤ 16) (w : World) : Calls Tryd.prog 38 #[.agg #[.int .i16 G.mb, .float .f32 G.mh, .float .f32 G.mr, .float .f32 G.ar, .float .f32 G.he, .float .f32 G.lo, .float .f32 G.hi, .float .f32 G.ine], .agg #[.float .f32 S.s, .int .i8 S.g]] w (RV (.int .i64 (gateN G S)) w) := by
  have h0 := i64_of_i8 wS
  have h1 := i64_small (z := S.g - 1) (by omega) (by omega)
  have h2 := i64_small (z := S.g + 1) (by omega) (by omega)
  unfold gateN
  rcases Bool.eq_false_or_eq_true (oGt S.s G.hi) with hk | hk <;> rcases Bool.eq_false_or_eq_true (oLt S.s G.lo) with hs | hs
  all_goals
    simp only [hk, hs, if_true, if_false, Bool.false_eq_true]
    unfold oGt at hk
    unfold oLt at hs
    go_enter Tryd.func38, Tryd.ntmps38
    go_wp2_with (first | (go_at_call 67; refine (l00Max_any _ _ _).mono ?_; rintro e w1 ⟨rfl, rfl⟩) | (go_at_call 68; refine (l00Min_any _ _ _).mono ?_; rintro e w1 ⟨rfl, rfl⟩))
    all_goals
      go_ret
      refine ⟨?_, ?_⟩
      · first | rfl | (congr 2; (repeat split) <;> omega) | (congr 2; split <;> omega) | (simp_all; done)
      (repeat (first | exact Below.refl _ _ | refine b_drewN ?_ _ | refine b_drew ?_ | refine b_alloc ?_ _ | refine b_then ?_ (by assumption)))
def zeroIfI (k x : Int) : Int := if k = 0 then x else 0
/-- The call returns two integers, and turns nothing that was there. -/
def RIC (x k : Int) (w : World) (e : Ending) (w' : World) : Prop := e = .returned (.tuple #[.int .i64 x, .int .i64 k]) ∧ Below w.heap.size w w'
theorem specGateBehind_any (G : Gv) (wG : (Lit.int .i16 G.mb).wf = true) (S : Se) (wS : (Lit.int .i8 S.g).wf = true) (w : World) : Calls Tryd.prog 11 #[.agg #[.int .i16 G.mb, .float .f32 G.mh, .float .f32 G.mr, .float .f32 G.ar, .float .f32 G.he, .float .f32 G.lo, .float .f32 G.hi, .float .f32 G.ine], .agg #[.float .f32 S.s, .int .i8 S.g]] w (RIC (zeroIfI (bothK G S) (gateN G S)) (bothK G S) w) := by
  obtain ⟨q0, q1, bw⟩ := both_q w G S
  have Q0 := Lib.hid q0; have Q1 := Lib.hid q1; have BW := Lib.hid bw
  clear q0 q1 bw
  rcases Bool.eq_false_or_eq_true (bothB G S) with hb | hb
  · have ek := Lib.hid (show bothK G S = 0 by unfold bothK; rw [hb]; rfl)
    unfold bothB at hb
    rw [Bool.and_eq_true] at hb
    have hst := hb.2
    unfold stB at hst
    rw [Bool.and_eq_true] at hst
    obtain ⟨g0, g1⟩ := inB_le hst.2
    rw [ek.out]
    clear hb hst
    go_enter Tryd.func11, Tryd.ntmps11
    go_wp2_with (first | (go_at_call 37; refine (l03Both_any G wG S wS _).mono ?_; rintro e w1 ⟨rfl, b1⟩; have B1 : Hid (Below w.heap.size w w1) := b_then BW.out b1; obtain ⟨c0, c1, c2, c3, c4, c5, c6, c7⟩ := (Q0.out.on (by rfl) b1).cells; obtain ⟨d0, d1⟩ := (Q1.out.on (by rfl) b1).cells; rw [ek.out]) | (go_at_call 38; refine (l03Gate_any G S wS g0 g1 _).mono ?_; rintro e w2 ⟨rfl, b2⟩; have B2 : Hid (Below w.heap.size w w2) := b_then B1.out b2))
    go_ret2
    exact ⟨rfl, B2.out⟩
  · have ek := Lib.hid (show bothK G S = 1 by unfold bothK; rw [hb]; rfl)
    rw [ek.out]
    clear hb
    go_enter Tryd.func11, Tryd.ntmps11
    go_wp2_with (go_at_call 37; refine (l03Both_any G wG S wS _).mono ?_; rintro e w1 ⟨rfl, b1⟩; have B1 : Hid (Below w.heap.size w w1) := b_then BW.out b1; rw [ek.out])
    go_ret2
    exact ⟨rfl, B1.out⟩
set_option maxHeartbeats 4000000 in
theorem implGateBehind_any (G : Gv) (S : Se) (wS : (Lit.int .i8 S.g).wf = true) (w : World) (Z : Sens) (hZ : SenAt w Z) : Calls Tryd.prog 14 #[.agg #[.int .i16 G.mb, .float .f32 G.mh, .float .f32 G.mr, .float .f32 G.ar, .float .f32 G.he, .float .f32 G.lo, .float .f32 G.hi, .float .f32 G.ine], .agg #[.float .f32 S.s, .int .i8 S.g]] w (RIC (zeroIfI (bothK G S) (gateN G S)) (bothK G S) w) := by
  obtain ⟨q0, q1, bw⟩ := both_q w G S
  have HZ := Lib.hid hZ
  have Q0 := Lib.hid q0; have Q1 := Lib.hid q1; have BW := Lib.hid bw
  clear q0 q1 bw hZ
  rcases Bool.eq_false_or_eq_true (bothB G S) with hb | hb
  · have ek : bothK G S = 0 := by unfold bothK; rw [hb]; rfl
    have ev := Lib.hid (show bothV Z G S = .nilIface by unfold bothV; rw [hb]; rfl)
    unfold bothB at hb
    rw [Bool.and_eq_true] at hb
    have hst := hb.2
    unfold stB at hst
    rw [Bool.and_eq_true] at hst
    obtain ⟨g0, g1⟩ := inB_le hst.2
    obtain ⟨n0, n1⟩ := gateN_in (G := G) g0 g1
    have h8 := i64_small (z := gateN G S) (by omega) (by omega)
    rw [ek]
    clear hb ek hst
    go_enter Tryd.func14, Tryd.ntmps14
    go_wp2_with (go_at_call 39; refine (stateError_any Z G S wS _ (SenAt.on HZ.out (by rfl) BW.out)).mono ?_; rintro e w1 ⟨rfl, b1⟩; have B1 : Hid (Below w.heap.size w w1) := b_then BW.out b1; have l0 := Q0.out.on (by rfl) b1; have l1 := Q1.out.on (by rfl) b1; have L1 := Lib.hid l1; obtain ⟨c0, c1, c2, c3, c4, c5, c6, c7⟩ := l0.cells; obtain ⟨d0, d1⟩ := l1.cells; clear b1 l0 l1; rw [ev.out])
    go_region_law (first
      | (go_simp; go_at_call 41; refine (governedBy_any G _).mono ?_; rintro e w2 ⟨p, rfl, hm, hp, b2⟩; have B2 := Lib.hid b2; (try (obtain ⟨u0, u1⟩ := (L1.out.on (by rfl) b2).cells)); clear hm b2; dsimp only)
      | (go_simp; go_at_call 42; refine (gateBehind_any G S p g0 g1 _).mono ?_; rintro e w3 ⟨rfl, b3⟩; dsimp only))
    all_goals
      go_wp2
      go_ret2
      refine ⟨rfl, ?_⟩
      have h2 := b_then (w := w) (by (repeat (first | exact B1.out | refine b_drewN ?_ _ | refine b_drew ?_))) B2.out
      have h3 := b_then (w := w) (by (repeat (first | exact h2 | refine b_drewN ?_ _ | refine b_drew ?_))) b3
      repeat (first | exact h3 | refine b_drewN ?_ _ | refine b_drew ?_)
  · have ek := Lib.hid (show bothK G S = 1 by unfold bothK; rw [hb]; rfl)
    have ev := Lib.hid (show bothV Z G S = .iface 176 (.pointer (some Z.a0)) by unfold bothV; rw [hb]; rfl)
    rw [ek.out]
    clear hb
    go_enter Tryd.func14, Tryd.ntmps14
    go_wp2_with (first | (go_at_call 39; refine (stateError_any Z G S wS _ (SenAt.on HZ.out (by rfl) BW.out)).mono ?_; rintro e w1 ⟨rfl, b1⟩; have B1 : Hid (Below w.heap.size w w1) := b_then BW.out b1; have z1 : Hid (SenAt w1 Z) := SenAt.on HZ.out (by rfl) B1.out; rw [ev.out]) | (go_at_call 40; refine (codeOf_0 Z _ z1.out).mono ?_; rintro e w2 ⟨rfl, rfl⟩))
    go_ret2
    exact ⟨rfl, B1.out⟩
end Go.Proofs.YtajifkbpjabciabDoor
