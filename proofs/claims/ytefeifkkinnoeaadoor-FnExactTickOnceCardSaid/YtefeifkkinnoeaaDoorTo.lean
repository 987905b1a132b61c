/-
  TickOnce: both sides and the law.
-/
import Derived.Test.YtefeifkkinnoeaaDoorTm
import Derived.Deep.DeepCutAuto
namespace Go.Proofs.YtefeifkkinnoeaaDoor
open Go.RowKit Go.ChangeShapes Go.WideShapes Go.Deep
attribute [local go_sem ↓] Go.wp_at_zero Go.wp_at_succ
set_option linter.unusedVariables false
set_option linter.unusedSimpArgs false
set_option maxRecDepth 100000
def tickK (G : Gv) (S : Se) (l : Nat) : Int := if bothB G S then (if psB l then 0 else 2) else 1
def tickV (Z : Sens) (G : Gv) (S : Se) (l : Nat) : Value := if bothB G S then (if psB l then .nilIface else .iface 98 (.pointer (some Z.a1))) else .iface 98 (.pointer (some Z.a0))
/-- What a tick answers. -/
def tickR (G : Gv) (S : Se) (l : Nat) : Se := if tickK G S l = 0 then tickS G S l else ⟨0, 0⟩
theorem plainSize_is {m : Nat} {b : Bool} (h : psB m = b) (w : World) : Calls Tryd.prog 24 #[.float .f32 m] w fun e w' => e = .returned (.bool b) ∧ w = w' := by
  subst h
  unfold psB oGe oLe
  go_enter Tryd.func24, Tryd.ntmps24
  go_wp2
  · go_ret
    exact ⟨rfl, rfl⟩
  · rename_i h
    go_ret
    refine ⟨?_, rfl⟩
    simp at h
    simp [h]
theorem amount_is {m : Nat} {b : Bool} (h : psB m = b) (w : World) : Calls Tryd.prog 10 #[.float .f32 m] w fun e w' => e = .returned (.bool b) ∧ w = w' := by
  subst h
  unfold psB oGe oLe
  go_enter Tryd.func10, Tryd.ntmps10
  go_wp2
  · go_ret
    exact ⟨rfl, rfl⟩
  · rename_i h
    go_ret
    refine ⟨?_, rfl⟩
    simp at h
    simp [h]
set_option maxHeartbeats 2000000 in
theorem tickError_any (Z : Sens) (G : Gv) (S : Se) (wS : (Lit.int .i8 S.g).wf = true) (l q : Nat) (w : World) (hZ : SenAt w Z) (hq : q < w.heap.size) (hc : w.cell? ⟨q, 0, none⟩ = some (.float .f32 l)) :
    Calls Tryd.prog 13 #[.agg #[.int .i16 G.mb, .float .f32 G.mh, .float .f32 G.mr, .float .f32 G.ar, .float .f32 G.he, .float .f32 G.lo, .float .f32 G.hi, .float .f32 G.ine], .agg #[.float .f32 S.s, .int .i8 S.g], .slice (some ⟨q, 0, none⟩) 1 1] w (RV (tickV Z G S l) w) := by
  obtain ⟨q0, q1, bw⟩ := both_q w G S
  have HZ := Lib.hid hZ
  have BW := Lib.hid bw
  have hcc : ∀ W, Below w.heap.size w W → W.cell? ⟨q, 0, none⟩ = some (.float .f32 l) := fun W hW => (World.cell?_of_block (a := ⟨q, 0, none⟩) (hW.block q hq)).trans hc
  have HC := Lib.hid hcc
  clear bw hZ hcc hc
  rcases Bool.eq_false_or_eq_true (bothB G S) with hb | hb
  · have ev := Lib.hid (show bothV Z G S = .nilIface by unfold bothV; rw [hb]; rfl)
    have et := Lib.hid (show tickV Z G S l = if psB l then .nilIface else .iface 98 (.pointer (some Z.a1)) by unfold tickV; rw [hb]; rfl)
    clear hb
    obtain ⟨c0, c1, c2, c3, c4, c5, c6, c7⟩ := q0.cells
    obtain ⟨d0, d1⟩ := q1.cells
    clear q0 q1
    go_enter Tryd.func13, Tryd.ntmps13
    go_wp2_with (go_at_call 23; refine (stateError_any Z G S wS _ (SenAt.on HZ.out (by rfl) BW.out)).mono ?_; rintro e w1 ⟨rfl, b1⟩; have B1 : Hid (Below w.heap.size w w1) := b_then BW.out b1; have z1 : Hid (SenAt w1 Z) := SenAt.on HZ.out (by rfl) B1.out; clear b1; rw [ev.out])
    clear c0 c1 c2 c3 c4 c5 c6 c7 d0 d1
    go_loop [18] (fun i => ∃ k : Nat, k ≤ 1 ∧ i = .int .i64 k ∧ Hid (0 < k → psB l = true)) (fun i => 1 - (intOf i).toNat)
    case atStart => exact ⟨0, by omega, rfl, fun h => absurd h (by omega)⟩
    case round =>
      obtain ⟨k, hk, rfl, hp⟩ := hrel
      rcases (by omega : k = 0 ∨ k = 1) with rfl | rfl
      · have c0 := HC.out w1 B1.out
        have g1 := z1.out.1.2.1.cell
        rcases Bool.eq_false_or_eq_true (psB l) with hl | hl
        · have Hl := Lib.hid hl; clear hl
          go_wp2_with (go_at_call 24; refine (plainSize_is Hl.out _).mono ?_; rintro e w2 ⟨rfl, rfl⟩)
          go_round
          case rel => exact ⟨1, by omega, by go_num, fun _ => Hl.out⟩
          case measure => simp [intOf]
        · have Hl := Lib.hid hl; clear hl
          go_wp2_with (go_at_call 24; refine (plainSize_is Hl.out _).mono ?_; rintro e w2 ⟨rfl, rfl⟩)
          go_ret
          exact ⟨by rw [et.out, Hl.out]; rfl, B1.out⟩
      · have Hl := Lib.hid (hp.out (by omega))
        clear hp
        go_wp2
        go_ret
        exact ⟨by rw [et.out, Hl.out]; rfl, B1.out⟩
  · have ev := Lib.hid (show bothV Z G S = .iface 98 (.pointer (some Z.a0)) by unfold bothV; rw [hb]; rfl)
    have et := Lib.hid (show tickV Z G S l = .iface 98 (.pointer (some Z.a0)) by unfold tickV; rw [hb]; rfl)
    clear hb
    obtain ⟨c0, c1, c2, c3, c4, c5, c6, c7⟩ := q0.cells
    obtain ⟨d0, d1⟩ := q1.cells
    clear q0 q1
    go_enter Tryd.func13, Tryd.ntmps13
    go_wp2_with (go_at_call 23; refine (stateError_any Z G S wS _ (SenAt.on HZ.out (by rfl) BW.out)).mono ?_; rintro e w1 ⟨rfl, b1⟩; have B1 : Hid (Below w.heap.size w w1) := b_then BW.out b1; clear b1; rw [ev.out])
    go_ret
    exact ⟨by rw [et.out]; rfl, B1.out⟩
theorem ret_statec {fn : Func} {tmps : Array Value} {W : World} {q k t : Nat} {a b : Value} (ha : a.oneCell' = true) (hb : b.oneCell' = true) (hr : fn.results = #[.cell k 31, .tmp t]) (h2 : tmps.getD k undef = .pointer (some ⟨q, 0, none⟩)) (Z : Blk W q #[a, b] 31) :
    (results fn tmps).run Tryd.prog W = .ok (.tuple #[.agg #[a, b], tmps.getD t undef]) W := by
  have e0 := Z.cell 0
  have e1 := Z.cell 1
  simp at e0 e1
  rw [Array.getD_eq_getD_getElem?] at h2
  simp [results, hr, h2, go_sem, e0, e1]
theorem tickK_cases (G : Gv) (S : Se) (l : Nat) : tickK G S l = 0 ∨ tickK G S l = 1 ∨ tickK G S l = 2 := by
  unfold tickK
  cases bothB G S <;> cases psB l <;> simp
set_option maxHeartbeats 4000000 in
theorem specTickOnce_any (G : Gv) (wG : (Lit.int .i16 G.mb).wf = true) (wh : G.mh < 4294967296) (S : Se) (wS : (Lit.int .i8 S.g).wf = true) (ws : S.s < 4294967296) (l : Nat) (w : World) : Calls Tryd.prog 4 #[.agg #[.int .i16 G.mb, .float .f32 G.mh, .float .f32 G.mr, .float .f32 G.ar, .float .f32 G.he, .float .f32 G.lo, .float .f32 G.hi, .float .f32 G.ine], .agg #[.float .f32 S.s, .int .i8 S.g], .float .f32 l] w (RV (.tuple #[.agg #[.float .f32 (tickR G S l).s, .int .i8 (tickR G S l).g], .int .i64 (tickK G S l)]) w) := by
  obtain ⟨q0, q1, qr, bw⟩ := tick_q w #[.int .i16 G.mb, .float .f32 G.mh, .float .f32 G.mr, .float .f32 G.ar, .float .f32 G.he, .float .f32 G.lo, .float .f32 G.hi, .float .f32 G.ine] 36 S
  have q0' : AtGv (tickW w #[.int .i16 G.mb, .float .f32 G.mh, .float .f32 G.mr, .float .f32 G.ar, .float .f32 G.he, .float .f32 G.lo, .float .f32 G.hi, .float .f32 G.ine] 36 S) w.heap.size G := q0
  have Q0 := Lib.hid q0'; have Q1 := Lib.hid q1; have ZR := Lib.hid qr; have BW := Lib.hid bw
  have hq : w.heap.size ≤ w.heap.size + 2 := by omega
  rcases Bool.eq_false_or_eq_true (bothB G S) with hb | hb
  · have ek := Lib.hid (show bothK G S = 0 by unfold bothK; rw [hb]; rfl)
    rcases Bool.eq_false_or_eq_true (psB l) with hl | hl
    · have et : tickK G S l = 0 := by unfold tickK; rw [hb, hl]; rfl
      have er : tickR G S l = tickS G S l := by unfold tickR; rw [if_pos et]
      rw [et, er]
      unfold bothB at hb
      rw [Bool.and_eq_true] at hb
      have HG : Hid (GoodG G) := ⟨hb.1, wG, wh⟩
      have HS : Hid (GoodS S) := ⟨hb.2, wS, ws⟩
      have Hl := Lib.hid hl
      obtain ⟨c0, c1, c2, c3, c4, c5, c6, c7⟩ := q0'.cells
      obtain ⟨d0, d1⟩ := q1.cells
      clear q0 q0' q1 qr bw hb hl et er
      generalize hT : tickS G S l = T at *
      have HT := Lib.hid hT; clear hT
      go_enter Tryd.func4, Tryd.ntmps4
      go_wp2_with (first
        | (go_at_call 9; refine (l03Both_any G wG S wS _).mono ?_; rw [ek.out]; rintro e w1 ⟨rfl, b1⟩; have B1 := Lib.hid b1; obtain ⟨e0, e1, e2, e3, e4, e5, e6, e7⟩ := (Q0.out.on (by rfl) b1).cells; obtain ⟨f0, f1⟩ := (Q1.out.on (by rfl) b1).cells; clear b1)
        | (go_at_call 10; refine (amount_is Hl.out _).mono ?_; rintro e w2 ⟨rfl, rfl⟩)
        | (go_at_call 11; refine (l03Tick_any G HG.out S HS.out l Hl.out _).mono ?_; rw [HT.out]; rintro e w3 ⟨rfl, b3⟩; have B3 := Lib.hid b3; have bz : Below (tickW w #[.int .i16 G.mb, .float .f32 G.mh, .float .f32 G.mr, .float .f32 G.ar, .float .f32 G.he, .float .f32 G.lo, .float .f32 G.hi, .float .f32 G.ine] 36 S).heap.size (tickW w #[.int .i16 G.mb, .float .f32 G.mh, .float .f32 G.mr, .float .f32 G.ar, .float .f32 G.he, .float .f32 G.lo, .float .f32 G.hi, .float .f32 G.ine] 36 S) w3 := b_then B1.out b3; have BF := Lib.hid (b_then BW.out bz); have zr := ZR.out.on (by rfl) bz; have rc0 := zr.cell 0; have rc1 := zr.cell 1; have rf0 := zr.frozen 0; have rf1 := zr.frozen 1; simp at rc0 rc1; have ZQ := Lib.hid zr; clear zr; clear b3 bz))
      refine bodyPost_ret (ret_statec rfl rfl Tryd.results4 rfl ((ZQ.out.set 0 _).set 1 _)) rfl ⟨rfl, ?_⟩
      exact b_set (b_set BF.out hq _ _) hq _ _
    · have et : tickK G S l = 2 := by unfold tickK; rw [hb, hl]; rfl
      have er : tickR G S l = ⟨0, 0⟩ := by unfold tickR; rw [if_neg (by rw [et]; decide)]
      rw [et, er]
      have Hl := Lib.hid hl
      obtain ⟨c0, c1, c2, c3, c4, c5, c6, c7⟩ := q0'.cells
      obtain ⟨d0, d1⟩ := q1.cells
      clear q0 q0' q1 qr bw hb hl et er
      go_enter Tryd.func4, Tryd.ntmps4
      go_wp2_with (first
        | (go_at_call 9; refine (l03Both_any G wG S wS _).mono ?_; rw [ek.out]; rintro e w1 ⟨rfl, b1⟩; have bz := b1; have BF := Lib.hid (b_then BW.out bz); have zr := ZR.out.on (by rfl) bz; have rc0 := zr.cell 0; have rc1 := zr.cell 1; have rf0 := zr.frozen 0; have rf1 := zr.frozen 1; simp at rc0 rc1; have ZQ := Lib.hid zr; clear zr; clear b1 bz)
        | (go_at_call 10; refine (amount_is Hl.out _).mono ?_; rintro e w2 ⟨rfl, rfl⟩))
      first
        | exact bodyPost_ret (ret_statec rfl rfl Tryd.results4 rfl ZQ.out) rfl ⟨rfl, BF.out⟩
        | (refine bodyPost_ret (ret_statec rfl rfl Tryd.results4 rfl ((ZQ.out.set 0 _).set 1 _)) rfl ⟨rfl, ?_⟩; exact b_set (b_set BF.out hq _ _) hq _ _)
  · have ek := Lib.hid (show bothK G S = 1 by unfold bothK; rw [hb]; rfl)
    have et : tickK G S l = 1 := by unfold tickK; rw [hb]; rfl
    have er : tickR G S l = ⟨0, 0⟩ := by unfold tickR; rw [if_neg (by rw [et]; decide)]
    rw [et, er]
    obtain ⟨c0, c1, c2, c3, c4, c5, c6, c7⟩ := q0'.cells
    obtain ⟨d0, d1⟩ := q1.cells
    clear q0 q0' q1 qr bw hb et er
    go_enter Tryd.func4, Tryd.ntmps4
    go_wp2_with (first
      | (go_at_call 9; refine (l03Both_any G wG S wS _).mono ?_; rw [ek.out]; rintro e w1 ⟨rfl, b1⟩; have bz := b1; have BF := Lib.hid (b_then BW.out bz); have zr := ZR.out.on (by rfl) bz; have rc0 := zr.cell 0; have rc1 := zr.cell 1; have rf0 := zr.frozen 0; have rf1 := zr.frozen 1; simp at rc0 rc1; have ZQ := Lib.hid zr; clear zr; clear b1 bz))
    first
      | exact bodyPost_ret (ret_statec rfl rfl Tryd.results4 rfl ZQ.out) rfl ⟨rfl, BF.out⟩
      | (refine bodyPost_ret (ret_statec rfl rfl Tryd.results4 rfl ((ZQ.out.set 0 _).set 1 _)) rfl ⟨rfl, ?_⟩; exact b_set (b_set BF.out hq _ _) hq _ _)
set_option maxHeartbeats 4000000 in
theorem implTickOnce_any (G : Gv) (wG : (Lit.int .i16 G.mb).wf = true) (wh : G.mh < 4294967296) (S : Se) (wS : (Lit.int .i8 S.g).wf = true) (ws : S.s < 4294967296) (l : Nat) (w : World) (Z : Sens) (hZ : SenAt w Z) : Calls Tryd.prog 7 #[.agg #[.int .i16 G.mb, .float .f32 G.mh, .float .f32 G.mr, .float .f32 G.ar, .float .f32 G.he, .float .f32 G.lo, .float .f32 G.hi, .float .f32 G.ine], .agg #[.float .f32 S.s, .int .i8 S.g], .float .f32 l] w (RV (.tuple #[.agg #[.float .f32 (tickR G S l).s, .int .i8 (tickR G S l).g], .int .i64 (tickK G S l)]) w) := by
  obtain ⟨q0, q1, qr, bw⟩ := tick_q w #[.int .i16 G.mb, .float .f32 G.mh, .float .f32 G.mr, .float .f32 G.ar, .float .f32 G.he, .float .f32 G.lo, .float .f32 G.hi, .float .f32 G.ine] 36 S
  have q0' : AtGv (tickW w #[.int .i16 G.mb, .float .f32 G.mh, .float .f32 G.mr, .float .f32 G.ar, .float .f32 G.he, .float .f32 G.lo, .float .f32 G.hi, .float .f32 G.ine] 36 S) w.heap.size G := q0
  have hs2 : Hid (w.heap.size + 2 < (tickW w #[.int .i16 G.mb, .float .f32 G.mh, .float .f32 G.mr, .float .f32 G.ar, .float .f32 G.he, .float .f32 G.lo, .float .f32 G.hi, .float .f32 G.ine] 36 S).heap.size) := qr.lt
  have HZ := Lib.hid hZ
  have Q0 := Lib.hid q0'; have Q1 := Lib.hid q1; have ZR := Lib.hid qr; have BW := Lib.hid bw
  have hq : w.heap.size ≤ w.heap.size + 2 := by omega
  obtain ⟨c0, c1, c2, c3, c4, c5, c6, c7⟩ := q0'.cells
  obtain ⟨d0, d1⟩ := q1.cells
  clear q0 q0' q1 qr bw hZ
  rcases Bool.eq_false_or_eq_true (bothB G S) with hb | hb
  · rcases Bool.eq_false_or_eq_true (psB l) with hl | hl
    · have et : tickK G S l = 0 := by unfold tickK; rw [hb, hl]; rfl
      have er : tickR G S l = tickS G S l := by unfold tickR; rw [if_pos et]
      have hv := Lib.hid (show tickV Z G S l = .nilIface by unfold tickV; rw [hb, hl]; rfl)
      rw [et, er]
      unfold bothB at hb
      rw [Bool.and_eq_true] at hb
      have HG : Hid (GoodG G) := ⟨hb.1, wG, wh⟩
      have HS : Hid (GoodS S) := ⟨hb.2, wS, ws⟩
      have Hl := Lib.hid hl
      clear hb hl et er
      generalize hT : tickS G S l = T at *
      have HT := Lib.hid hT; clear hT
      go_enter Tryd.func7, Tryd.ntmps7
      go_wp2_with (first | (go_at_call 13; refine (tickError_any Z G S wS l _ _ (SenAt.on HZ.out (by rfl) (by first | exact b_alloc BW.out _ | (repeat (first | exact Below.refl _ _ | refine b_drewN ?_ _ | refine b_drew ?_ | refine b_alloc ?_ _ | refine b_then ?_ (by assumption))))) (by simp) (by go_simp)).mono ?_; rw [hv.out]; rintro e w1 ⟨rfl, b1⟩; have bz : Below (tickW w #[.int .i16 G.mb, .float .f32 G.mh, .float .f32 G.mr, .float .f32 G.ar, .float .f32 G.he, .float .f32 G.lo, .float .f32 G.hi, .float .f32 G.ine] 36 S).heap.size (tickW w #[.int .i16 G.mb, .float .f32 G.mh, .float .f32 G.mr, .float .f32 G.ar, .float .f32 G.he, .float .f32 G.lo, .float .f32 G.hi, .float .f32 G.ine] 36 S) w1 := b_then (b_alloc (Below.refl _ _) _) b1; have Bz := Lib.hid bz; have BF := Lib.hid (b_then BW.out bz); have z1 : Hid (SenAt w1 Z) := SenAt.on HZ.out (by rfl) BF.out; have zr := ZR.out.on (by rfl) bz; have rc0 := zr.cell 0; have rc1 := zr.cell 1; have rf0 := zr.frozen 0; have rf1 := zr.frozen 1; simp at rc0 rc1; have ZQ := Lib.hid zr; clear zr; obtain ⟨e0, e1, e2, e3, e4, e5, e6, e7⟩ := (Q0.out.on (by rfl) bz).cells; obtain ⟨f0, f1⟩ := (Q1.out.on (by rfl) bz).cells; clear bz))
      go_region_law (first
        | (go_simp; go_at_call 15; refine (governedBy_any G _).mono ?_; rintro e w2 ⟨p, rfl, hm, hp, b2⟩; have HM := Lib.hid hm; have bx : Below (tickW w #[.int .i16 G.mb, .float .f32 G.mh, .float .f32 G.mr, .float .f32 G.ar, .float .f32 G.he, .float .f32 G.lo, .float .f32 G.hi, .float .f32 G.ine] 36 S).heap.size (tickW w #[.int .i16 G.mb, .float .f32 G.mh, .float .f32 G.mr, .float .f32 G.ar, .float .f32 G.he, .float .f32 G.lo, .float .f32 G.hi, .float .f32 G.ine] 36 S) w2 := b_then (b_drew Bz.out) b2; have BX := Lib.hid bx; obtain ⟨u0, u1⟩ := (Q1.out.on (by rfl) bx).cells; have hne : w.heap.size + 2 ≠ p := (by have h1 := hs2.out; have h2 := Bz.out.size; have h3 : w1.heap.size ≤ p := hp; omega); have hp' : w.heap.size ≤ p := (by have h1 := hs2.out; have h2 := Bz.out.size; have h3 : w1.heap.size ≤ p := hp; omega); clear hm bx; dsimp only)
        | (go_simp; go_at_call 16; refine (implTick_any G HG.out S HS.out l Hl.out p #[] 0 _ HM.out (Inv.nil _)).mono ?_; rw [HT.out]; rintro e w3 ⟨rfl, _, sv⟩; have zq := (ZR.out.on (by rfl) BX.out).save hne sv; have k0 := zq.cell 0; have k1 := zq.cell 1; simp at k0 k1; have kf0 := zq.frozen 0; have kf1 := zq.frozen 1; have ZQ3 := Lib.hid zq; have BF3 := Lib.hid (Below.trans (b_then BW.out BX.out) (sv.below (B := w.heap.size) hp' (b_then BW.out BX.out).size)); clear zq; dsimp only))
      all_goals
        go_wp2
        have Z2 := (ZQ3.out.set 0 (.float .f32 T.s)).set 1 (.int .i8 T.g)
        have BB := b_set (b_set BF3.out hq 0 (.float .f32 T.s)) hq 1 (.int .i8 T.g)
        first
          | exact bodyPost_ret (ret_statec rfl rfl Tryd.results7 rfl Z2) rfl ⟨rfl, BB⟩
          | (generalize (w3.setCell ⟨w.heap.size + 2, 0, none⟩ (.float .f32 T.s)).setCell ⟨w.heap.size + 2, 1, none⟩ (.int .i8 T.g) = W9 at *
             have Z3 : Blk W9.drew (w.heap.size + 2) #[.float .f32 T.s, .int .i8 T.g] 31 := Z2
             exact bodyPost_ret (ret_statec rfl rfl Tryd.results7 rfl Z3) rfl ⟨rfl, b_drew BB⟩)
    · have et : tickK G S l = 2 := by unfold tickK; rw [hb, hl]; rfl
      have er : tickR G S l = ⟨0, 0⟩ := by unfold tickR; rw [if_neg (by rw [et]; decide)]
      have hv := Lib.hid (show tickV Z G S l = .iface 98 (.pointer (some Z.a1)) by unfold tickV; rw [hb, hl]; rfl)
      rw [et, er]
      clear hb hl et er
      go_enter Tryd.func7, Tryd.ntmps7
      go_wp2_with (first | (go_at_call 13; refine (tickError_any Z G S wS l _ _ (SenAt.on HZ.out (by rfl) (by first | exact b_alloc BW.out _ | (repeat (first | exact Below.refl _ _ | refine b_drewN ?_ _ | refine b_drew ?_ | refine b_alloc ?_ _ | refine b_then ?_ (by assumption))))) (by simp) (by go_simp)).mono ?_; rw [hv.out]; rintro e w1 ⟨rfl, b1⟩; have bz : Below (tickW w #[.int .i16 G.mb, .float .f32 G.mh, .float .f32 G.mr, .float .f32 G.ar, .float .f32 G.he, .float .f32 G.lo, .float .f32 G.hi, .float .f32 G.ine] 36 S).heap.size (tickW w #[.int .i16 G.mb, .float .f32 G.mh, .float .f32 G.mr, .float .f32 G.ar, .float .f32 G.he, .float .f32 G.lo, .float .f32 G.hi, .float .f32 G.ine] 36 S) w1 := b_then (b_alloc (Below.refl _ _) _) b1; have Bz := Lib.hid bz; have BF := Lib.hid (b_then BW.out bz); have z1 : Hid (SenAt w1 Z) := SenAt.on HZ.out (by rfl) BF.out; have zr := ZR.out.on (by rfl) bz; have rc0 := zr.cell 0; have rc1 := zr.cell 1; have rf0 := zr.frozen 0; have rf1 := zr.frozen 1; simp at rc0 rc1; have ZQ := Lib.hid zr; clear zr; obtain ⟨e0, e1, e2, e3, e4, e5, e6, e7⟩ := (Q0.out.on (by rfl) bz).cells; obtain ⟨f0, f1⟩ := (Q1.out.on (by rfl) bz).cells; clear bz) | (go_at_call 14; refine (codeOf_1 Z _ z1.out).mono ?_; rintro e w2 ⟨rfl, rfl⟩))
      first
        | exact bodyPost_ret (ret_statec rfl rfl Tryd.results7 rfl ZQ.out) rfl ⟨rfl, BF.out⟩
        | (refine bodyPost_ret (ret_statec rfl rfl Tryd.results7 rfl ((ZQ.out.set 0 _).set 1 _)) rfl ⟨rfl, ?_⟩; exact b_set (b_set BF.out hq _ _) hq _ _)
  · have et : tickK G S l = 1 := by unfold tickK; rw [hb]; rfl
    have er : tickR G S l = ⟨0, 0⟩ := by unfold tickR; rw [if_neg (by rw [et]; decide)]
    have hv := Lib.hid (show tickV Z G S l = .iface 98 (.pointer (some Z.a0)) by unfold tickV; rw [hb]; rfl)
    rw [et, er]
    clear hb et er
    go_enter Tryd.func7, Tryd.ntmps7
    go_wp2_with (first | (go_at_call 13; refine (tickError_any Z G S wS l _ _ (SenAt.on HZ.out (by rfl) (by first | exact b_alloc BW.out _ | (repeat (first | exact Below.refl _ _ | refine b_drewN ?_ _ | refine b_drew ?_ | refine b_alloc ?_ _ | refine b_then ?_ (by assumption))))) (by simp) (by go_simp)).mono ?_; rw [hv.out]; rintro e w1 ⟨rfl, b1⟩; have bz : Below (tickW w #[.int .i16 G.mb, .float .f32 G.mh, .float .f32 G.mr, .float .f32 G.ar, .float .f32 G.he, .float .f32 G.lo, .float .f32 G.hi, .float .f32 G.ine] 36 S).heap.size (tickW w #[.int .i16 G.mb, .float .f32 G.mh, .float .f32 G.mr, .float .f32 G.ar, .float .f32 G.he, .float .f32 G.lo, .float .f32 G.hi, .float .f32 G.ine] 36 S) w1 := b_then (b_alloc (Below.refl _ _) _) b1; have Bz := Lib.hid bz; have BF := Lib.hid (b_then BW.out bz); have z1 : Hid (SenAt w1 Z) := SenAt.on HZ.out (by rfl) BF.out; have zr := ZR.out.on (by rfl) bz; have rc0 := zr.cell 0; have rc1 := zr.cell 1; have rf0 := zr.frozen 0; have rf1 := zr.frozen 1; simp at rc0 rc1; have ZQ := Lib.hid zr; clear zr; obtain ⟨e0, e1, e2, e3, e4, e5, e6, e7⟩ := (Q0.out.on (by rfl) bz).cells; obtain ⟨f0, f1⟩ := (Q1.out.on (by rfl) bz).cells; clear bz) | (go_at_call 14; refine (codeOf_0 Z _ z1.out).mono ?_; rintro e w2 ⟨rfl, rfl⟩))
    first
      | exact bodyPost_ret (ret_statec rfl rfl Tryd.results7 rfl ZQ.out) rfl ⟨rfl, BF.out⟩
      | (refine bodyPost_ret (ret_statec rfl rfl Tryd.results7 rfl ((ZQ.out.set 0 _).set 1 _)) rfl ⟨rfl, ?_⟩; exact b_set (b_set BF.out hq _ _) hq _ _)
theorem eqState_same (T : Se) (w : World) : Calls Tryd.prog 8 #[.agg #[.float .f32 T.s, .int .i8 T.g], .agg #[.float .f32 T.s, .int .i8 T.g]] w (RV (.bool true) w) := by
  have k0 := (AtSe.new w T).push (.cells #[.float .f32 T.s, .int .i8 T.g] 31)
  have k1 := AtSe.new (w.alloc (.cells #[.float .f32 T.s, .int .i8 T.g] 31)) T
  have hs : (w.alloc (.cells #[.float .f32 T.s, .int .i8 T.g] 31)).heap.size = w.heap.size + 1 := by simp
  have bw : Below w.heap.size w ((w.alloc (.cells #[.float .f32 T.s, .int .i8 T.g] 31)).alloc (.cells #[.float .f32 T.s, .int .i8 T.g] 31)) := b_alloc (b_alloc (Below.refl _ _) _) _
  rw [hs] at k1
  have K0 := Lib.hid k0; have K1 := Lib.hid k1; have BW := Lib.hid bw
  obtain ⟨c0, c1⟩ := k0.cells
  obtain ⟨e0, e1⟩ := k1.cells
  clear k0 k1 hs bw
  rcases Bool.eq_false_or_eq_true (nan32 T.s) with hn | hn
  · have q1 := fun w => run_nan_wide (P := Tryd.prog) w 23 55 T.s (by rw [Tryd.underlying23]; rfl) Tryd.underlying55 hn
    clear hn
    go_enter Tryd.func8, Tryd.ntmps8
    go_wp2_with (go_at_call 17; refine (sf_nan _ _ _ (nanTo_nan _ _) (nanTo_nan _ _)).mono ?_; rintro e w' ⟨rfl, rfl⟩)
    go_ret
    refine ⟨rfl, ?_⟩
    have bw := BW.out
    repeat (first | exact bw | refine b_drewN ?_ _ | refine b_drew ?_)
  · have q1 := fun w => run_wide (P := Tryd.prog) w 23 55 T.s (by rw [Tryd.underlying23]; rfl) Tryd.underlying55 hn
    have q3 := (wide_some hn).2
    clear hn
    go_enter Tryd.func8, Tryd.ntmps8
    go_wp2_with (go_at_call 17; refine (sf_eq _ _ q3).mono ?_; rintro e w' ⟨rfl, rfl⟩)
    go_ret
    exact ⟨rfl, BW.out⟩
set_option maxHeartbeats 4000000 in
theorem walk_FnExactTickOnce (X : Gv) (wX : (Lit.int .i16 X.mb).wf = true ∧ (Lit.float .f32 X.mh).wf = true ∧ (Lit.float .f32 X.mr).wf = true ∧ (Lit.float .f32 X.ar).wf = true ∧ (Lit.float .f32 X.he).wf = true ∧ (Lit.float .f32 X.lo).wf = true ∧ (Lit.float .f32 X.hi).wf = true ∧ (Lit.float .f32 X.ine).wf = true) (Y : Se) (wY : (Lit.float .f32 Y.s).wf = true ∧ (Lit.int .i8 Y.g).wf = true) (l : Nat) (wl : (Lit.float .f32 l).wf = true) (w : World) (Z : Sens) (hZ : SenAt w Z) :
    Calls Tryd.prog 3 #[.agg #[.int .i16 X.mb, .float .f32 X.mh, .float .f32 X.mr, .float .f32 X.ar, .float .f32 X.he, .float .f32 X.lo, .float .f32 X.hi, .float .f32 X.ine], .agg #[.float .f32 Y.s, .int .i8 Y.g], .float .f32 l] w fun e w' => e = .returned (.bool true) ∧ Below w.heap.size w w' := by
  have k0 : AtLGv ((w.alloc (.cells #[.int .i16 X.mb, .float .f32 X.mh, .float .f32 X.mr, .float .f32 X.ar, .float .f32 X.he, .float .f32 X.lo, .float .f32 X.hi, .float .f32 X.ine] 27)).alloc (.cells #[.float .f32 Y.s, .int .i8 Y.g] 30)) w.heap.size X := (AtLGv.new w X).push _
  have k1 : AtLSe ((w.alloc (.cells #[.int .i16 X.mb, .float .f32 X.mh, .float .f32 X.mr, .float .f32 X.ar, .float .f32 X.he, .float .f32 X.lo, .float .f32 X.hi, .float .f32 X.ine] 27)).alloc (.cells #[.float .f32 Y.s, .int .i8 Y.g] 30)) (w.heap.size + 1) Y := by
    have e : (w.alloc (.cells #[.int .i16 X.mb, .float .f32 X.mh, .float .f32 X.mr, .float .f32 X.ar, .float .f32 X.he, .float .f32 X.lo, .float .f32 X.hi, .float .f32 X.ine] 27)).heap.size = w.heap.size + 1 := by simp
    rw [← e]
    exact AtLSe.new _ _
  have bw : Below w.heap.size w ((w.alloc (.cells #[.int .i16 X.mb, .float .f32 X.mh, .float .f32 X.mr, .float .f32 X.ar, .float .f32 X.he, .float .f32 X.lo, .float .f32 X.hi, .float .f32 X.ine] 27)).alloc (.cells #[.float .f32 Y.s, .int .i8 Y.g] 30)) := b_alloc (b_alloc (Below.refl _ _) _) _
  have HZ := Lib.hid hZ; clear hZ
  have wh : X.mh < 4294967296 := by simpa [Lit.wf] using wX.2.1
  have ws : Y.s < 4294967296 := by simpa [Lit.wf] using wY.1
  have hsp := Lib.hid (fun w => specTickOnce_any X wX.1 wh Y wY.2 ws l w)
  have him := Lib.hid (fun w hz => implTickOnce_any X wX.1 wh Y wY.2 ws l w Z hz)
  go_enter Tryd.func3, Tryd.ntmps3
  go_upto_region 1 with fail
  generalize ((w.alloc (.cells #[.int .i16 X.mb, .float .f32 X.mh, .float .f32 X.mr, .float .f32 X.ar, .float .f32 X.he, .float .f32 X.lo, .float .f32 X.hi, .float .f32 X.ine] 27)).alloc (.cells #[.float .f32 Y.s, .int .i8 Y.g] 30)) = W at *
  have K0 := Lib.hid k0; have K1 := Lib.hid k1; have Bw := Lib.hid bw
  obtain ⟨c0, c1, c2, c3, c4, c5, c6, c7⟩ := k0.cells
  obtain ⟨d0, d1⟩ := k1.cells
  have hs0 : w.heap.size < W.heap.size := k0.lt
  have hs1 : w.heap.size + 1 < W.heap.size := k1.lt
  clear k0 k1 bw wX wY wl wh ws
  go_cut [7, 8] (fun s7 s8 wx => (∃ q, s7 = .pointer (some ⟨q, 0, none⟩) ∧ AtSe wx q (tickR X Y l) ∧ W.heap.size ≤ q) ∧ s8 = .int .i64 (tickK X Y l) ∧ Below W.heap.size W wx)
  case first =>
    go_region_law (first
      | (go_simp; go_at_call 4; refine (hsp.out _).mono ?_; rintro e w3 ⟨rfl, b3⟩; (try (first | (have kzn := Blk.on kz (by rfl) b3; clear kz; have kz := kzn; clear kzn; have kc0 := kz.cell 0; have kc1 := kz.cell 1; simp at kc0 kc1; have kf0 := kz.frozen 0; have kf1 := kz.frozen 1; have kl := kz.lt) | (have kz := Blk.on (Blk.new _ #[.float .f32 0, .int .i8 0] 31) (by rfl) b3; have kc0 := kz.cell 0; have kc1 := kz.cell 1; simp at kc0 kc1; have kf0 := kz.frozen 0; have kf1 := kz.frozen 1; have kl := kz.lt))); dsimp only)
      | (go_simp; go_at_call 5; refine (toGv_any X _).mono ?_; rintro e w1 ⟨rfl, b1⟩; have ka := AtLGv.under K0.out hs0 (show Below W.heap.size W w1 by (repeat (first | exact Below.refl _ _ | refine b_drewN ?_ _ | refine b_drew ?_ | refine b_alloc ?_ _ | refine b_then ?_ (by assumption)))); have kb := AtLSe.under K1.out hs1 (show Below W.heap.size W w1 by (repeat (first | exact Below.refl _ _ | refine b_drewN ?_ _ | refine b_drew ?_ | refine b_alloc ?_ _ | refine b_then ?_ (by assumption)))); obtain ⟨u0, u1, u2, u3, u4, u5, u6, u7⟩ := ka.cells; obtain ⟨v0, v1⟩ := kb.cells; have la := ka.lt; have lb := kb.lt; clear ka kb; (try (first | (have kzn := Blk.on kz (by rfl) b1; clear kz; have kz := kzn; clear kzn; have kc0 := kz.cell 0; have kc1 := kz.cell 1; simp at kc0 kc1; have kf0 := kz.frozen 0; have kf1 := kz.frozen 1; have kl := kz.lt) | (have kz := Blk.on (Blk.new _ #[.float .f32 0, .int .i8 0] 31) (by rfl) b1; have kc0 := kz.cell 0; have kc1 := kz.cell 1; simp at kc0 kc1; have kf0 := kz.frozen 0; have kf1 := kz.frozen 1; have kl := kz.lt))); dsimp only)
      | (go_simp; go_at_call 6; refine (toSe_any Y _).mono ?_; rintro e w2 ⟨rfl, b2⟩; have ka := AtLGv.under K0.out hs0 (show Below W.heap.size W w2 by (repeat (first | exact Below.refl _ _ | refine b_drewN ?_ _ | refine b_drew ?_ | refine b_alloc ?_ _ | refine b_then ?_ (by assumption)))); have kb := AtLSe.under K1.out hs1 (show Below W.heap.size W w2 by (repeat (first | exact Below.refl _ _ | refine b_drewN ?_ _ | refine b_drew ?_ | refine b_alloc ?_ _ | refine b_then ?_ (by assumption)))); obtain ⟨u0, u1, u2, u3, u4, u5, u6, u7⟩ := ka.cells; obtain ⟨v0, v1⟩ := kb.cells; have la := ka.lt; have lb := kb.lt; clear ka kb; (try (first | (have kzn := Blk.on kz (by rfl) b2; clear kz; have kz := kzn; clear kzn; have kc0 := kz.cell 0; have kc1 := kz.cell 1; simp at kc0 kc1; have kf0 := kz.frozen 0; have kf1 := kz.frozen 1; have kl := kz.lt) | (have kz := Blk.on (Blk.new _ #[.float .f32 0, .int .i8 0] 31) (by rfl) b2; have kc0 := kz.cell 0; have kc1 := kz.cell 1; simp at kc0 kc1; have kf0 := kz.frozen 0; have kf1 := kz.frozen 1; have kl := kz.lt))); dsimp only))
    all_goals
      go_wp2_with fail
      go_meet
      refine ⟨⟨_, rfl, ?_, ?_⟩, rfl, ?_⟩
      · first | exact AtSe.new _ _ | exact (AtSe.new _ _).same (by rfl) | exact (kz.set 0 _).set 1 _
      · (first | exact Nat.le_refl _ | exact (show Below W.heap.size W w3 by (repeat (first | exact Below.refl _ _ | refine b_drewN ?_ _ | refine b_drew ?_ | refine b_alloc ?_ _ | refine b_then ?_ (by assumption)))).size | exact (show Below W.heap.size W w2 by (repeat (first | exact Below.refl _ _ | refine b_drewN ?_ _ | refine b_drew ?_ | refine b_alloc ?_ _ | refine b_then ?_ (by assumption)))).size | exact (show Below W.heap.size W w1 by (repeat (first | exact Below.refl _ _ | refine b_drewN ?_ _ | refine b_drew ?_ | refine b_alloc ?_ _ | refine b_then ?_ (by assumption)))).size)
      · first | (refine b_set (b_set ?_ (by (first | exact Nat.le_refl _ | exact (show Below W.heap.size W w3 by (repeat (first | exact Below.refl _ _ | refine b_drewN ?_ _ | refine b_drew ?_ | refine b_alloc ?_ _ | refine b_then ?_ (by assumption)))).size | exact (show Below W.heap.size W w2 by (repeat (first | exact Below.refl _ _ | refine b_drewN ?_ _ | refine b_drew ?_ | refine b_alloc ?_ _ | refine b_then ?_ (by assumption)))).size | exact (show Below W.heap.size W w1 by (repeat (first | exact Below.refl _ _ | refine b_drewN ?_ _ | refine b_drew ?_ | refine b_alloc ?_ _ | refine b_then ?_ (by assumption)))).size)) _ _) (by (first | exact Nat.le_refl _ | exact (show Below W.heap.size W w3 by (repeat (first | exact Below.refl _ _ | refine b_drewN ?_ _ | refine b_drew ?_ | refine b_alloc ?_ _ | refine b_then ?_ (by assumption)))).size | exact (show Below W.heap.size W w2 by (repeat (first | exact Below.refl _ _ | refine b_drewN ?_ _ | refine b_drew ?_ | refine b_alloc ?_ _ | refine b_then ?_ (by assumption)))).size | exact (show Below W.heap.size W w1 by (repeat (first | exact Below.refl _ _ | refine b_drewN ?_ _ | refine b_drew ?_ | refine b_alloc ?_ _ | refine b_then ?_ (by assumption)))).size)) _ _; focus (repeat (first | exact Below.refl _ _ | refine b_drewN ?_ _ | refine b_drew ?_ | refine b_alloc ?_ _ | refine b_then ?_ (by assumption))); done) | ((repeat (first | exact Below.refl _ _ | refine b_drewN ?_ _ | refine b_drew ?_ | refine b_alloc ?_ _ | refine b_then ?_ (by assumption))); done)
  case rest =>
    obtain ⟨⟨q7, rfl, j7, hq7⟩, rfl, hbc⟩ := hcut
    have k0 := AtLGv.under K0.out hs0 hbc
    have k1 := AtLSe.under K1.out hs1 hbc
    have Bc := Lib.hid (b_then Bw.out hbc)
    have ZC : Hid (SenAt wc Z) := SenAt.on HZ.out (by rfl) Bc.out
    have J7 := Lib.hid j7
    have hl7 : q7 < wc.heap.size := j7.lt
    clear c0 c1 c2 c3 c4 c5 c6 c7 d0 d1 hbc j7
    obtain ⟨c0, c1, c2, c3, c4, c5, c6, c7⟩ := k0.cells
    obtain ⟨d0, d1⟩ := k1.cells
    have ht0 : w.heap.size < wc.heap.size := k0.lt
    have ht1 : w.heap.size + 1 < wc.heap.size := k1.lt
    have M0 := Lib.hid k0; have M1 := Lib.hid k1
    clear k0 k1
    go_upto_region 2 with fail
    go_cut [9, 10] (fun s9 s10 wx => (∃ q, s9 = .pointer (some ⟨q, 0, none⟩) ∧ AtSe wx q (tickR X Y l) ∧ wc.heap.size ≤ q) ∧ s10 = .int .i64 (tickK X Y l) ∧ Below wc.heap.size wc wx)
    case first =>
      go_region_law (first
        | (go_simp; go_at_call 7; refine (him.out _ (SenAt.on ZC.out (by rfl) (by (repeat (first | exact Below.refl _ _ | refine b_drewN ?_ _ | refine b_drew ?_ | refine b_alloc ?_ _ | refine b_then ?_ (by assumption)))))).mono ?_; rintro e w3 ⟨rfl, b3⟩; (try (first | (have kzn := Blk.on kz (by rfl) b3; clear kz; have kz := kzn; clear kzn; have kc0 := kz.cell 0; have kc1 := kz.cell 1; simp at kc0 kc1; have kf0 := kz.frozen 0; have kf1 := kz.frozen 1; have kl := kz.lt) | (have kz := Blk.on (Blk.new _ #[.float .f32 0, .int .i8 0] 31) (by rfl) b3; have kc0 := kz.cell 0; have kc1 := kz.cell 1; simp at kc0 kc1; have kf0 := kz.frozen 0; have kf1 := kz.frozen 1; have kl := kz.lt))); dsimp only)
        | (go_simp; go_at_call 5; refine (toGv_any X _).mono ?_; rintro e w1 ⟨rfl, b1⟩; have ka := AtLGv.under M0.out ht0 (show Below wc.heap.size wc w1 by (repeat (first | exact Below.refl _ _ | refine b_drewN ?_ _ | refine b_drew ?_ | refine b_alloc ?_ _ | refine b_then ?_ (by assumption)))); have kb := AtLSe.under M1.out ht1 (show Below wc.heap.size wc w1 by (repeat (first | exact Below.refl _ _ | refine b_drewN ?_ _ | refine b_drew ?_ | refine b_alloc ?_ _ | refine b_then ?_ (by assumption)))); obtain ⟨u0, u1, u2, u3, u4, u5, u6, u7⟩ := ka.cells; obtain ⟨v0, v1⟩ := kb.cells; have la := ka.lt; have lb := kb.lt; clear ka kb; (try (first | (have kzn := Blk.on kz (by rfl) b1; clear kz; have kz := kzn; clear kzn; have kc0 := kz.cell 0; have kc1 := kz.cell 1; simp at kc0 kc1; have kf0 := kz.frozen 0; have kf1 := kz.frozen 1; have kl := kz.lt) | (have kz := Blk.on (Blk.new _ #[.float .f32 0, .int .i8 0] 31) (by rfl) b1; have kc0 := kz.cell 0; have kc1 := kz.cell 1; simp at kc0 kc1; have kf0 := kz.frozen 0; have kf1 := kz.frozen 1; have kl := kz.lt))); dsimp only)
        | (go_simp; go_at_call 6; refine (toSe_any Y _).mono ?_; rintro e w2 ⟨rfl, b2⟩; have ka := AtLGv.under M0.out ht0 (show Below wc.heap.size wc w2 by (repeat (first | exact Below.refl _ _ | refine b_drewN ?_ _ | refine b_drew ?_ | refine b_alloc ?_ _ | refine b_then ?_ (by assumption)))); have kb := AtLSe.under M1.out ht1 (show Below wc.heap.size wc w2 by (repeat (first | exact Below.refl _ _ | refine b_drewN ?_ _ | refine b_drew ?_ | refine b_alloc ?_ _ | refine b_then ?_ (by assumption)))); obtain ⟨u0, u1, u2, u3, u4, u5, u6, u7⟩ := ka.cells; obtain ⟨v0, v1⟩ := kb.cells; have la := ka.lt; have lb := kb.lt; clear ka kb; (try (first | (have kzn := Blk.on kz (by rfl) b2; clear kz; have kz := kzn; clear kzn; have kc0 := kz.cell 0; have kc1 := kz.cell 1; simp at kc0 kc1; have kf0 := kz.frozen 0; have kf1 := kz.frozen 1; have kl := kz.lt) | (have kz := Blk.on (Blk.new _ #[.float .f32 0, .int .i8 0] 31) (by rfl) b2; have kc0 := kz.cell 0; have kc1 := kz.cell 1; simp at kc0 kc1; have kf0 := kz.frozen 0; have kf1 := kz.frozen 1; have kl := kz.lt))); dsimp only))
      all_goals
        go_wp2_with fail
        go_meet
        refine ⟨⟨_, rfl, ?_, ?_⟩, rfl, ?_⟩
        · first | exact AtSe.new _ _ | exact (AtSe.new _ _).same (by rfl) | exact (kz.set 0 _).set 1 _
        · (first | exact Nat.le_refl _ | exact (show Below wc.heap.size wc w3 by (repeat (first | exact Below.refl _ _ | refine b_drewN ?_ _ | refine b_drew ?_ | refine b_alloc ?_ _ | refine b_then ?_ (by assumption)))).size | exact (show Below wc.heap.size wc w2 by (repeat (first | exact Below.refl _ _ | refine b_drewN ?_ _ | refine b_drew ?_ | refine b_alloc ?_ _ | refine b_then ?_ (by assumption)))).size | exact (show Below wc.heap.size wc w1 by (repeat (first | exact Below.refl _ _ | refine b_drewN ?_ _ | refine b_drew ?_ | refine b_alloc ?_ _ | refine b_then ?_ (by assumption)))).size)
        · first | (refine b_set (b_set ?_ (by (first | exact Nat.le_refl _ | exact (show Below wc.heap.size wc w3 by (repeat (first | exact Below.refl _ _ | refine b_drewN ?_ _ | refine b_drew ?_ | refine b_alloc ?_ _ | refine b_then ?_ (by assumption)))).size | exact (show Below wc.heap.size wc w2 by (repeat (first | exact Below.refl _ _ | refine b_drewN ?_ _ | refine b_drew ?_ | refine b_alloc ?_ _ | refine b_then ?_ (by assumption)))).size | exact (show Below wc.heap.size wc w1 by (repeat (first | exact Below.refl _ _ | refine b_drewN ?_ _ | refine b_drew ?_ | refine b_alloc ?_ _ | refine b_then ?_ (by assumption)))).size)) _ _) (by (first | exact Nat.le_refl _ | exact (show Below wc.heap.size wc w3 by (repeat (first | exact Below.refl _ _ | refine b_drewN ?_ _ | refine b_drew ?_ | refine b_alloc ?_ _ | refine b_then ?_ (by assumption)))).size | exact (show Below wc.heap.size wc w2 by (repeat (first | exact Below.refl _ _ | refine b_drewN ?_ _ | refine b_drew ?_ | refine b_alloc ?_ _ | refine b_then ?_ (by assumption)))).size | exact (show Below wc.heap.size wc w1 by (repeat (first | exact Below.refl _ _ | refine b_drewN ?_ _ | refine b_drew ?_ | refine b_alloc ?_ _ | refine b_then ?_ (by assumption)))).size)) _ _; focus (repeat (first | exact Below.refl _ _ | refine b_drewN ?_ _ | refine b_drew ?_ | refine b_alloc ?_ _ | refine b_then ?_ (by assumption))); done) | ((repeat (first | exact Below.refl _ _ | refine b_drewN ?_ _ | refine b_drew ?_ | refine b_alloc ?_ _ | refine b_then ?_ (by assumption))); done)
    case rest =>
      rename_i wd
      obtain ⟨⟨q9, rfl, j9, hq9⟩, rfl, hbd⟩ := hcut
      have j7 := AtSe.under J7.out hl7 hbd
      have B3 := Lib.hid (b_then Bc.out hbd)
      clear c0 c1 c2 c3 c4 c5 c6 c7 d0 d1 hbd
      obtain ⟨a0, a1⟩ := j7.cells
      obtain ⟨g0, g1⟩ := j9.cells
      have hl8 := j7.lt
      have hl9 := j9.lt
      clear j7 j9
      go_wp2_with fail
      refine (eqState_same _ _).mono ?_
      rintro e w5 ⟨rfl, b5⟩
      have B5 := Lib.hid (b_then B3.out b5)
      clear b5 a0 a1 g0 g1
      go_wp2
      go_ret
      exact ⟨rfl, B5.out⟩
end Go.Proofs.YtefeifkkinnoeaaDoor
