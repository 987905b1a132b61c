/-
  The errors of a state, and TorqueAt: the program's function and the model's.
-/
import Derived.Test.YtajifkbpjabciaaDoorTa
namespace Go.Proofs.YtajifkbpjabciaaDoor
open Go.RowKit Go.ChangeShapes Go.WideShapes Go.Deep
attribute [local go_sem ↓] Go.wp_at_zero Go.wp_at_succ
set_option linter.unusedVariables false
set_option linter.unusedSimpArgs false
set_option maxRecDepth 100000
/-- A governor and a state, boxed one behind the other. -/
def bothW (w : World) (G : Gv) (S : Se) : World := (w.alloc (.cells #[.int .i16 G.mb, .float .f32 G.mh, .float .f32 G.mr, .float .f32 G.ar, .float .f32 G.he, .float .f32 G.lo, .float .f32 G.hi, .float .f32 G.ine] 46)).alloc (.cells #[.float .f32 S.s, .int .i8 S.g] 48)
theorem both_q (w : World) (G : Gv) (S : Se) : AtGv (bothW w G S) w.heap.size G ∧ AtSe (bothW w G S) (w.heap.size + 1) S ∧ Below w.heap.size w (bothW w G S) := by
  refine ⟨(AtGv.new w G).push _, ?_, b_alloc (b_alloc (Below.refl _ _) _) _⟩
  have e : (w.alloc (.cells #[.int .i16 G.mb, .float .f32 G.mh, .float .f32 G.mr, .float .f32 G.ar, .float .f32 G.he, .float .f32 G.lo, .float .f32 G.hi, .float .f32 G.ine] 46)).heap.size = w.heap.size + 1 := by simp
  unfold bothW
  rw [← e]
  exact AtSe.new _ _
def bothB (G : Gv) (S : Se) : Bool := okG G && stB S
def bothK (G : Gv) (S : Se) : Int := if bothB G S then 0 else 1
def bothV (Z : Sens) (G : Gv) (S : Se) : Value := if bothB G S then .nilIface else .iface 100 (.pointer (some Z.a0))
theorem validState_is {S : Se} {b : Bool} (h : stB S = b) (wS : (Lit.int .i8 S.g).wf = true) (w : World) : Calls Tryd.prog 65 #[.agg #[.float .f32 S.s, .int .i8 S.g]] w (RV (.bool b) w) := by subst h; exact validState_any S wS w
theorem validGov_is {G : Gv} {b : Bool} (h : okG G = b) (w : World) : Calls Tryd.prog 64 #[.agg #[.int .i16 G.mb, .float .f32 G.mh, .float .f32 G.mr, .float .f32 G.ar, .float .f32 G.he, .float .f32 G.lo, .float .f32 G.hi, .float .f32 G.ine]] w (RV (.bool b) w) := by subst h; exact validGov_any G w
theorem l03State_is {S : Se} {b : Bool} (h : stB S = b) (wS : (Lit.int .i8 S.g).wf = true) (w : World) : Calls Tryd.prog 63 #[.agg #[.float .f32 S.s, .int .i8 S.g]] w (RV (.bool b) w) := by subst h; exact l03State_any S wS w
theorem l03Ok_is {G : Gv} {b : Bool} (h : okG G = b) (wG : (Lit.int .i16 G.mb).wf = true) (w : World) : Calls Tryd.prog 62 #[.agg #[.int .i16 G.mb, .float .f32 G.mh, .float .f32 G.mr, .float .f32 G.ar, .float .f32 G.he, .float .f32 G.lo, .float .f32 G.hi, .float .f32 G.ine]] w (RV (.bool b) w) := by subst h; exact l03Ok_any G wG w
theorem stateError_any (Z : Sens) (G : Gv) (S : Se) (wS : (Lit.int .i8 S.g).wf = true) (w : World) (hZ : SenAt w Z) : Calls Tryd.prog 52 #[.agg #[.int .i16 G.mb, .float .f32 G.mh, .float .f32 G.mr, .float .f32 G.ar, .float .f32 G.he, .float .f32 G.lo, .float .f32 G.hi, .float .f32 G.ine], .agg #[.float .f32 S.s, .int .i8 S.g]] w (RV (bothV Z G S) w) := by
  have HZ := Lib.hid hZ
  obtain ⟨q0, q1, bw⟩ := both_q w G S
  clear hZ
  unfold bothV bothB
  rcases Bool.eq_false_or_eq_true (okG G) with hk | hk <;> rcases Bool.eq_false_or_eq_true (stB S) with hs | hs
  all_goals
    simp only [hk, hs, if_true, if_false, Bool.false_eq_true, Bool.and_true, Bool.and_false, Bool.and_self, Bool.false_and]
    have Hk := Lib.hid hk; have Hs := Lib.hid hs
    have Q1 := Lib.hid q1; have BW := Lib.hid bw
    clear hk hs q0 q1 bw
    go_enter Tryd.func52, Tryd.ntmps52
    go_wp2_with (first | (go_at_call 64; refine (validGov_is Hk.out _).mono ?_; rintro e w1 ⟨rfl, b1⟩; have B1 : Hid (Below w.heap.size w w1) := b_then BW.out b1; have z1 := SenAt.on HZ.out (by rfl) B1.out; have g0 := z1.1.1.cell; clear z1; obtain ⟨d0, d1⟩ := (Q1.out.on (by rfl) b1).cells) | (go_at_call 65; refine (validState_is Hs.out wS _).mono ?_; rintro e w2 ⟨rfl, b2⟩; have B2 : Hid (Below w.heap.size w w2) := b_then B1.out b2; have z2 := SenAt.on HZ.out (by rfl) B2.out; have g1 := z2.1.1.cell; clear z2))
    go_ret
    refine ⟨rfl, ?_⟩
    first | exact B2.out | exact B1.out
theorem l03Both_any (G : Gv) (wG : (Lit.int .i16 G.mb).wf = true) (S : Se) (wS : (Lit.int .i8 S.g).wf = true) (w : World) : Calls Tryd.prog 50 #[.agg #[.int .i16 G.mb, .float .f32 G.mh, .float .f32 G.mr, .float .f32 G.ar, .float .f32 G.he, .float .f32 G.lo, .float .f32 G.hi, .float .f32 G.ine], .agg #[.float .f32 S.s, .int .i8 S.g]] w (RV (.int .i64 (bothK G S)) w) := by
  obtain ⟨q0, q1, bw⟩ := both_q w G S
  unfold bothK bothB
  rcases Bool.eq_false_or_eq_true (okG G) with hk | hk <;> rcases Bool.eq_false_or_eq_true (stB S) with hs | hs
  all_goals
    simp only [hk, hs, if_true, if_false, Bool.false_eq_true, Bool.and_true, Bool.and_false, Bool.and_self, Bool.false_and]
    have Hk := Lib.hid hk; have Hs := Lib.hid hs
    have Q1 := Lib.hid q1; have BW := Lib.hid bw
    clear hk hs q0 q1 bw
    go_enter Tryd.func50, Tryd.ntmps50
    go_wp2_with (first | (go_at_call 62; refine (l03Ok_is Hk.out wG _).mono ?_; rintro e w1 ⟨rfl, b1⟩; have B1 : Hid (Below w.heap.size w w1) := b_then BW.out b1; obtain ⟨d0, d1⟩ := (Q1.out.on (by rfl) b1).cells) | (go_at_call 63; refine (l03State_is Hs.out wS _).mono ?_; rintro e w2 ⟨rfl, b2⟩; have B2 : Hid (Below w.heap.size w w2) := b_then B1.out b2))
    go_ret
    refine ⟨rfl, ?_⟩
    first | exact B2.out | exact B1.out
theorem l03At_any (G : Gv) (hG : GoodG G) (s : Nat) (hs : spB s = true) (g : Int) (g0 : 0 ≤ g) (g1 : g ≤ 16) (w : World) : Calls Tryd.prog 51 #[.agg #[.int .i16 G.mb, .float .f32 G.mh, .float .f32 G.mr, .float .f32 G.ar, .float .f32 G.he, .float .f32 G.lo, .float .f32 G.hi, .float .f32 G.ine], .float .f32 s, .int .i64 g] w (RV (.float .f32 (torqG G g s)) w) := by
  have h0 := AtGv.new w G
  obtain ⟨c0, c1, c2, c3, c4, c5, c6, c7⟩ := h0.cells
  have HG := Lib.hid hG; have Hs := Lib.hid hs
  clear h0 hG hs
  go_enter Tryd.func51, Tryd.ntmps51
  go_wp2_with fail
  go_region_law (first
    | (go_simp; go_at_call 34; refine (specFlow_any G.ar G.he g HG.out.ar.1 HG.out.ar.2.1 g0 g1 _).mono ?_; rintro e w1 ⟨rfl, rfl⟩; dsimp only)
    | (go_simp; go_at_call 48; refine (specTorque_any (millOf G) HG.out.mill (flowN G.ar G.he g) s (flowG_ok HG.out g0 g1) Hs.out _).mono ?_; rintro e w2 ⟨rfl, b2⟩; dsimp only))
  all_goals
    go_wp2
    go_ret
    refine ⟨rfl, ?_⟩
    (repeat (first | exact Below.refl _ _ | refine b_drewN ?_ _ | refine b_drew ?_ | refine b_alloc ?_ _ | refine b_then ?_ (by assumption)))
theorem specTorqueAt_any (G : Gv) (wG : (Lit.int .i16 G.mb).wf = true) (wh : G.mh < 4294967296) (S : Se) (wS : (Lit.int .i8 S.g).wf = true) (ws : S.s < 4294967296) (w : World) : Calls Tryd.prog 24 #[.agg #[.int .i16 G.mb, .float .f32 G.mh, .float .f32 G.mr, .float .f32 G.ar, .float .f32 G.he, .float .f32 G.lo, .float .f32 G.hi, .float .f32 G.ine], .agg #[.float .f32 S.s, .int .i8 S.g]] w (RFC (zeroIf (bothK G S) (cn (torqG G S.g S.s))) (bothK G S) w) := by
  obtain ⟨q0, q1, bw⟩ := both_q w G S
  have Q0 := Lib.hid q0; have Q1 := Lib.hid q1; have BW := Lib.hid bw
  clear q0 q1 bw
  rcases Bool.eq_false_or_eq_true (bothB G S) with hb | hb
  · have ek := Lib.hid (show bothK G S = 0 by unfold bothK; rw [hb]; rfl)
    unfold bothB at hb
    rw [Bool.and_eq_true] at hb
    have HG : Hid (GoodG G) := ⟨hb.1, wG, wh⟩
    have HS : Hid (GoodS S) := ⟨hb.2, wS, ws⟩
    have h8 := i64_of_i8 wS
    rw [ek.out]
    clear hb
    go_enter Tryd.func24, Tryd.ntmps24
    go_wp2_with (first | (go_at_call 50; refine (l03Both_any G wG S wS _).mono ?_; rintro e w1 ⟨rfl, b1⟩; have B1 : Hid (Below w.heap.size w w1) := b_then BW.out b1; obtain ⟨c0, c1, c2, c3, c4, c5, c6, c7⟩ := (Q0.out.on (by rfl) b1).cells; obtain ⟨d0, d1⟩ := (Q1.out.on (by rfl) b1).cells; rw [ek.out]) | (go_at_call 51; refine (l03At_any G HG.out S.s HS.out.parts.1 S.g HS.out.parts.2.1 HS.out.parts.2.2 _).mono ?_; rintro e w2 ⟨rfl, b2⟩; have B2 : Hid (Below w.heap.size w w2) := b_then B1.out b2))
    go_ret2
    exact ⟨_, rfl, cn_lit _, B2.out⟩
  · have ek := Lib.hid (show bothK G S = 1 by unfold bothK; rw [hb]; rfl)
    rw [ek.out]
    clear hb
    go_enter Tryd.func24, Tryd.ntmps24
    go_wp2_with (go_at_call 50; refine (l03Both_any G wG S wS _).mono ?_; rintro e w1 ⟨rfl, b1⟩; have B1 : Hid (Below w.heap.size w w1) := b_then BW.out b1; rw [ek.out])
    go_ret2
    exact ⟨_, rfl, cn_lit _, B1.out⟩
set_option maxHeartbeats 4000000 in
theorem implTorqueAt_any (G : Gv) (wG : (Lit.int .i16 G.mb).wf = true) (wh : G.mh < 4294967296) (S : Se) (wS : (Lit.int .i8 S.g).wf = true) (ws : S.s < 4294967296) (w : World) (Z : Sens) (hZ : SenAt w Z) : Calls Tryd.prog 27 #[.agg #[.int .i16 G.mb, .float .f32 G.mh, .float .f32 G.mr, .float .f32 G.ar, .float .f32 G.he, .float .f32 G.lo, .float .f32 G.hi, .float .f32 G.ine], .agg #[.float .f32 S.s, .int .i8 S.g]] w (RFC (zeroIf (bothK G S) (cn (torqG G S.g S.s))) (bothK G S) w) := by
  obtain ⟨q0, q1, bw⟩ := both_q w G S
  have HZ := Lib.hid hZ
  have Q0 := Lib.hid q0; have Q1 := Lib.hid q1; have BW := Lib.hid bw
  clear q0 q1 bw hZ
  rcases Bool.eq_false_or_eq_true (bothB G S) with hb | hb
  · have ek : bothK G S = 0 := by unfold bothK; rw [hb]; rfl
    have ev := Lib.hid (show bothV Z G S = .nilIface by unfold bothV; rw [hb]; rfl)
    unfold bothB at hb
    rw [Bool.and_eq_true] at hb
    have HG : Hid (GoodG G) := ⟨hb.1, wG, wh⟩
    have HS : Hid (GoodS S) := ⟨hb.2, wS, ws⟩
    rw [ek]
    clear hb ek
    go_enter Tryd.func27, Tryd.ntmps27
    go_wp2_with (go_at_call 52; refine (stateError_any Z G S wS _ (SenAt.on HZ.out (by rfl) BW.out)).mono ?_; rintro e w1 ⟨rfl, b1⟩; have B1 : Hid (Below w.heap.size w w1) := b_then BW.out b1; have l0 := Q0.out.on (by rfl) b1; have l1 := Q1.out.on (by rfl) b1; have L1 := Lib.hid l1; obtain ⟨c0, c1, c2, c3, c4, c5, c6, c7⟩ := l0.cells; obtain ⟨d0, d1⟩ := l1.cells; clear b1 l0 l1; rw [ev.out])
    go_region_law (first
      | (go_simp; go_at_call 53; refine (governedBy_any G _).mono ?_; rintro e w2 ⟨p, rfl, hm, hp, b2⟩; have HM := Lib.hid hm; have B2 := Lib.hid b2; (try (obtain ⟨u0, u1⟩ := (L1.out.on (by rfl) b2).cells)); clear hm b2; dsimp only)
      | (go_simp; go_at_call 54; refine (torqueAt_any G HG.out S HS.out p #[] 0 _ HM.out (Inv.nil _)).mono ?_; rintro e w3 ⟨rfl, hm3, sv⟩; dsimp only))
    all_goals
      go_wp2
      go_ret2
      refine ⟨_, rfl, cn_lit _, ?_⟩
      have h2 := b_then (w := w) (by (repeat (first | exact B1.out | refine b_drewN ?_ _ | refine b_drew ?_))) B2.out
      have hp' : w.heap.size ≤ p := Nat.le_trans B1.out.size hp
      have s3 := sv.below (B := w.heap.size) hp' h2.size
      repeat (first | exact Below.trans (by (repeat (first | exact h2 | refine b_drewN ?_ _ | refine b_drew ?_))) s3 | refine b_drewN ?_ _ | refine b_drew ?_)
  · have ek := Lib.hid (show bothK G S = 1 by unfold bothK; rw [hb]; rfl)
    have ev := Lib.hid (show bothV Z G S = .iface 100 (.pointer (some Z.a0)) by unfold bothV; rw [hb]; rfl)
    rw [ek.out]
    clear hb
    go_enter Tryd.func27, Tryd.ntmps27
    go_wp2_with (first | (go_at_call 52; refine (stateError_any Z G S wS _ (SenAt.on HZ.out (by rfl) BW.out)).mono ?_; rintro e w1 ⟨rfl, b1⟩; have B1 : Hid (Below w.heap.size w w1) := b_then BW.out b1; have z1 : Hid (SenAt w1 Z) := SenAt.on HZ.out (by rfl) B1.out; rw [ev.out]) | (go_at_call 31; refine (codeOf_0 Z _ z1.out).mono ?_; rintro e w2 ⟨rfl, rfl⟩))
    go_ret2
    exact ⟨_, rfl, cn_lit _, B1.out⟩
end Go.Proofs.YtajifkbpjabciaaDoor
