/-
  The strongest swing, the program's, and its law.
-/
import Derived.Test.YtdpgfbmelnmkdabDoorSwj
import Derived.Deep.DeepCutAuto
namespace Go.Proofs.YtdpgfbmelnmkdabDoor
open Go.RowKit Go.ChangeShapes Go.WideShapes Go.Deep
attribute [local go_sem ↓] Go.wp_at_zero Go.wp_at_succ
set_option linter.unusedVariables false
set_option linter.unusedSimpArgs false
set_option maxRecDepth 100000

theorem allSw_bad (F : Nat → Nat) (hp : plA8 F = false) (w : World) : Calls Tryd.prog 30 #[.agg #[.float .f32 (F 0), .float .f32 (F 1), .float .f32 (F 2), .float .f32 (F 3), .float .f32 (F 4), .float .f32 (F 5), .float .f32 (F 6), .float .f32 (F 7)]] w fun e w' => ∃ X Y : Nat → Nat, e = .returned (.tuple #[.agg #[.float .f32 (X 0), .float .f32 (Y 0), .float .f32 (X 1), .float .f32 (Y 1), .float .f32 (X 2), .float .f32 (Y 2), .float .f32 (X 3), .float .f32 (Y 3), .float .f32 (X 4), .float .f32 (Y 4), .float .f32 (X 5), .float .f32 (Y 5), .float .f32 (X 6), .float .f32 (Y 6), .float .f32 (X 7), .float .f32 (Y 7)], .iface 89 (.int .i64 2)]) ∧ Below w.heap.size w w' :=
  (allSw_no F hp w).mono fun e w' ⟨X, Y, h1, _, h3⟩ => ⟨X, Y, by rw [h1, hp]; rfl, h3⟩
theorem allSw_good (F : Nat → Nat) (hp : plA8 F = true) (w : World) : Calls Tryd.prog 30 #[.agg #[.float .f32 (F 0), .float .f32 (F 1), .float .f32 (F 2), .float .f32 (F 3), .float .f32 (F 4), .float .f32 (F 5), .float .f32 (F 6), .float .f32 (F 7)]] w fun e w' => ∃ X Y : Nat → Nat, e = .returned (.tuple #[.agg #[.float .f32 (X 0), .float .f32 (Y 0), .float .f32 (X 1), .float .f32 (Y 1), .float .f32 (X 2), .float .f32 (Y 2), .float .f32 (X 3), .float .f32 (Y 3), .float .f32 (X 4), .float .f32 (Y 4), .float .f32 (X 5), .float .f32 (Y 5), .float .f32 (X 6), .float .f32 (Y 6), .float .f32 (X 7), .float .f32 (Y 7)], .nilIface]) ∧ (∀ i, i < 8 → sqPt (cn (X i), cn (Y i)) = sqS F i) ∧ Below w.heap.size w w' :=
  (allSw_ok F hp w).mono fun e w' ⟨X, Y, h1, h2, h3⟩ => ⟨X, Y, by rw [h1, hp]; rfl, fun i hi => by
    obtain ⟨a, b⟩ := h2 i hi
    rw [a, b, swX, swY, hp, if_pos rfl, if_pos rfl]
    rfl, h3⟩
set_option maxHeartbeats 4000000 in
theorem implSt_no (F : Nat → Nat) (w : World) (hE : EtAt w) (hp : plA8 F = false) : Calls Tryd.prog 13 #[.agg #[.float .f32 (F 0), .float .f32 (F 1), .float .f32 (F 2), .float .f32 (F 3), .float .f32 (F 4), .float .f32 (F 5), .float .f32 (F 6), .float .f32 (F 7)]] w (RT3 F w) := by
  have n2 : ∀ w, (binOp .neq 59 (.iface 89 (.int .i64 2)) .nilIface).run Tryd.prog w = .ok (.bool true) w := fun w => by kernel_rfl
  have HE := Lib.hid hE
  have e1 : codeSw F = 2 := by unfold codeSw; rw [hp]; rfl
  have e2 : stK F = 0 := by unfold stK; rw [hp]; rfl
  have e3 : stR F = cn 0 := by unfold stR; rw [hp]; rfl
  have Bw : Hid (Below w.heap.size w (w.alloc (.cells #[.float .f32 (F 0), .float .f32 (F 1), .float .f32 (F 2), .float .f32 (F 3), .float .f32 (F 4), .float .f32 (F 5), .float .f32 (F 6), .float .f32 (F 7)] 23))) := b_alloc (Below.refl _ _) _
  have HS := Lib.hid (allSw_bad F hp (w.alloc (.cells #[.float .f32 (F 0), .float .f32 (F 1), .float .f32 (F 2), .float .f32 (F 3), .float .f32 (F 4), .float .f32 (F 5), .float .f32 (F 6), .float .f32 (F 7)] 23)))
  unfold RT3
  rw [e1, e2, e3]
  clear hE hp e1 e2 e3
  go_enter Tryd.func13, Tryd.ntmps13
  go_wp2_with fail
  refine HS.out.mono ?_
  rintro e w1 ⟨X, Y, rfl, b1⟩
  have B1 : Hid (Below w.heap.size w w1) := b_then Bw.out b1
  have BN : Hid (Below w.heap.size w (w1.alloc (.cells #[.float .f32 (X 0), .float .f32 (Y 0), .float .f32 (X 1), .float .f32 (Y 1), .float .f32 (X 2), .float .f32 (Y 2), .float .f32 (X 3), .float .f32 (Y 3), .float .f32 (X 4), .float .f32 (Y 4), .float .f32 (X 5), .float .f32 (Y 5), .float .f32 (X 6), .float .f32 (Y 6), .float .f32 (X 7), .float .f32 (Y 7)] 57))) := b_alloc B1.out _
  clear b1 HS Bw
  go_wp2_with fail
  refine (refusedCode_ok 2 _ (HE.out.on (W := w) rfl BN.out)).mono ?_
  rintro e w2 ⟨rfl, b2⟩
  have B2 : Hid (Below w.heap.size w w2) := b_then BN.out b2
  clear b2
  go_wp2
  go_ret3
  exact ⟨0, rfl, rfl, B2.out⟩
set_option maxHeartbeats 4000000 in
theorem implSt_ok (F : Nat → Nat) (w : World) (hp : plA8 F = true) : Calls Tryd.prog 13 #[.agg #[.float .f32 (F 0), .float .f32 (F 1), .float .f32 (F 2), .float .f32 (F 3), .float .f32 (F 4), .float .f32 (F 5), .float .f32 (F 6), .float .f32 (F 7)]] w (RT3 F w) := by
  have n1 : ∀ w, (binOp .neq 59 .nilIface .nilIface).run Tryd.prog w = .ok (.bool false) w := fun w => by kernel_rfl
  have HS := Lib.hid (allSw_good F hp (w.alloc (.cells #[.float .f32 (F 0), .float .f32 (F 1), .float .f32 (F 2), .float .f32 (F 3), .float .f32 (F 4), .float .f32 (F 5), .float .f32 (F 6), .float .f32 (F 7)] 23)))
  obtain ⟨S, hS⟩ : ∃ S, sqS F = S := ⟨_, rfl⟩
  rw [hS] at HS
  have e1 : codeSw F = 0 := by unfold codeSw; rw [hp]; rfl
  have e2 : stK F = ((stJ S 5 : Nat) : Int) := by unfold stK; rw [hp, if_pos rfl, hS]
  have e3 : stR F = S (stJ S 5) := by unfold stR; rw [hp, if_pos rfl, hS]
  have Bw : Hid (Below w.heap.size w (w.alloc (.cells #[.float .f32 (F 0), .float .f32 (F 1), .float .f32 (F 2), .float .f32 (F 3), .float .f32 (F 4), .float .f32 (F 5), .float .f32 (F 6), .float .f32 (F 7)] 23))) := b_alloc (Below.refl _ _) _
  unfold RT3
  rw [e1, e2, e3]
  clear hp e1 e2 e3 hS
  go_enter Tryd.func13, Tryd.ntmps13
  go_wp2_with fail
  refine HS.out.mono ?_
  rintro e w1 ⟨X, Y, rfl, hXY, b1⟩
  have HXY := Lib.hid hXY
  have B1 : Hid (Below w.heap.size w w1) := b_then Bw.out b1
  have BN : Hid (Below w.heap.size w (w1.alloc (.cells #[.float .f32 (X 0), .float .f32 (Y 0), .float .f32 (X 1), .float .f32 (Y 1), .float .f32 (X 2), .float .f32 (Y 2), .float .f32 (X 3), .float .f32 (Y 3), .float .f32 (X 4), .float .f32 (Y 4), .float .f32 (X 5), .float .f32 (Y 5), .float .f32 (X 6), .float .f32 (Y 6), .float .f32 (X 7), .float .f32 (Y 7)] 57))) := b_alloc B1.out _
  have KN : Hid (Blk (w1.alloc (.cells #[.float .f32 (X 0), .float .f32 (Y 0), .float .f32 (X 1), .float .f32 (Y 1), .float .f32 (X 2), .float .f32 (Y 2), .float .f32 (X 3), .float .f32 (Y 3), .float .f32 (X 4), .float .f32 (Y 4), .float .f32 (X 5), .float .f32 (Y 5), .float .f32 (X 6), .float .f32 (Y 6), .float .f32 (X 7), .float .f32 (Y 7)] 57)) w1.heap.size #[.float .f32 (X 0), .float .f32 (Y 0), .float .f32 (X 1), .float .f32 (Y 1), .float .f32 (X 2), .float .f32 (Y 2), .float .f32 (X 3), .float .f32 (Y 3), .float .f32 (X 4), .float .f32 (Y 4), .float .f32 (X 5), .float .f32 (Y 5), .float .f32 (X 6), .float .f32 (Y 6), .float .f32 (X 7), .float .f32 (Y 7)] 57) := Blk.new _ _ _
  clear b1 HS Bw hXY
  go_wp2_with fail
  generalize (w1.alloc (.cells #[.float .f32 (X 0), .float .f32 (Y 0), .float .f32 (X 1), .float .f32 (Y 1), .float .f32 (X 2), .float .f32 (Y 2), .float .f32 (X 3), .float .f32 (Y 3), .float .f32 (X 4), .float .f32 (Y 4), .float .f32 (X 5), .float .f32 (Y 5), .float .f32 (X 6), .float .f32 (Y 6), .float .f32 (X 7), .float .f32 (Y 7)] 57)) = W at *
  generalize w1.heap.size = q at *
  go_loopw [7, 8] (fun a i wr => ∃ m : Nat, 2 ≤ m ∧ m ≤ 5 ∧ i = .int .i64 (m : Int) ∧ a = .int .i64 ((stJ S m : Nat) : Int) ∧ Hid (Blk wr q #[.float .f32 (X 0), .float .f32 (Y 0), .float .f32 (X 1), .float .f32 (Y 1), .float .f32 (X 2), .float .f32 (Y 2), .float .f32 (X 3), .float .f32 (Y 3), .float .f32 (X 4), .float .f32 (Y 4), .float .f32 (X 5), .float .f32 (Y 5), .float .f32 (X 6), .float .f32 (Y 6), .float .f32 (X 7), .float .f32 (Y 7)] 57) ∧ Hid (Below w.heap.size w wr)) (fun _ i _ => 8 - (intOf i).toNat)
  case atStart => exact ⟨2, by omega, by omega, rfl, by rw [stJ_two]; rfl, KN, BN⟩
  case round =>
    obtain ⟨m, hm2, hm5, rfl, rfl, hk, hb⟩ := hrel
    have hs8 := stJ_lt S m (by omega)
    by_cases hlt : m < 5
    · have u1 : (m : Int) ≤ 4 := by omega
      have u2 : (m : Int) < 8 := by omega
      have u3 : (0 : Int) ≤ (m : Int) := by omega
      have hno := stJ_no S m hm2
      have hyes := stJ_yes S m hm2
      obtain ⟨t, ht⟩ : ∃ t, oGt (S m) (S (stJ S m)) = t := ⟨_, rfl⟩
      rw [ht] at hno hyes
      have hm := HXY.out m (by omega); have hs := HXY.out (stJ S m) hs8
      generalize stJ S m = s at *
      have v2 : (s : Int) < 8 := by omega
      have v3 : (0 : Int) ≤ (s : Int) := by omega
      have HM := Lib.hid hm; have HSS := Lib.hid hs; have HT := Lib.hid ht; have Hno := Lib.hid hno; have Hyes := Lib.hid hyes
      have HB : Hid (∀ wz, Below wr.heap.size wr wz → (wz.cell? ⟨q, m * 2, none⟩ = some (.float .f32 (X m)) ∧ wz.cell? ⟨q, m * 2 + 1, none⟩ = some (.float .f32 (Y m))) ∧ wz.cell? ⟨q, s * 2, none⟩ = some (.float .f32 (X s)) ∧ wz.cell? ⟨q, s * 2 + 1, none⟩ = some (.float .f32 (Y s))) := fun wz b =>
        ⟨bP_get (Blk.on hk.out (by rfl) b) m (by omega), bP_get (Blk.on hk.out (by rfl) b) s hs8⟩
      obtain ⟨⟨c0, c1⟩, c2, c3⟩ := HB.out _ (Below.refl _ _)
      have hm8 : m < 8 := by omega
      clear hm hs ht hno hyes
      go_upto_region 8 with fail
      go_cut [30] (fun x wx => x = .bool t ∧ Below wr.heap.size wr wx)
      case first =>
        go_region_law (first
          | (go_simp; go_at_call 35; refine (square_any (X m) (Y m) _).mono ?_; rintro e w3 ⟨ra, rfl, hra, b3⟩; have RA : Hid (cn ra = S m) := (show cn ra = _ from hra).trans HM.out; have BA : Hid (Below wr.heap.size wr w3) := (by (repeat (first | exact Below.refl _ _ | assumption | refine b_drewN ?_ _ | refine b_drew ?_ | refine b_then ?_ (by assumption)))); obtain ⟨⟨c0, c1⟩, c2, c3⟩ := HB.out _ BA.out; clear hra b3; have bbb := BA.out; dsimp only)
          | (go_simp; go_at_call 35; refine (square_any (X s) (Y s) _).mono ?_; rintro e w3 ⟨rb, rfl, hrb, b3⟩; have RB : Hid (cn rb = S s) := (show cn rb = _ from hrb).trans HSS.out; have BA : Hid (Below wr.heap.size wr w3) := (by (repeat (first | exact Below.refl _ _ | assumption | refine b_drewN ?_ _ | refine b_drew ?_ | refine b_then ?_ (by assumption)))); obtain ⟨⟨c0, c1⟩, c2, c3⟩ := HB.out _ BA.out; clear hrb b3; have bbb := BA.out; dsimp only))
        all_goals
          go_wp2_with fail
          go_meet
          refine ⟨?_, by (repeat (first | exact Below.refl _ _ | assumption | refine b_drewN ?_ _ | refine b_drew ?_ | refine b_then ?_ (by assumption)))⟩
          refine congrArg Value.bool (Eq.trans ?_ HT.out)
          exact oGt_cn (by rw [← RA.out, cn_cn]) (by rw [← RB.out, cn_cn])
      case rest =>
        obtain ⟨rfl, hbc⟩ := hcut
        have hk2 := Lib.hid (Blk.on hk.out (by rfl) hbc)
        have Bc : Hid (Below w.heap.size w wc) := b_then hb.out hbc
        clear c0 c1 c2 c3 HB hk hb hbc
        cases t
        · have hn := Lib.hid (Hno.out rfl)
          go_wp2
          go_roundw
          case rel => exact ⟨m + 1, by omega, by omega, by go_num, by rw [hn.out], hk2, Bc⟩
          case measure => simp [intOf]; omega
        · have hn := Lib.hid (Hyes.out rfl)
          go_wp2
          go_roundw
          case rel => exact ⟨m + 1, by omega, by omega, by go_num, by rw [hn.out], hk2, Bc⟩
          case measure => simp [intOf]; omega
    · obtain rfl : m = 5 := by omega
      have hs := Lib.hid (HXY.out (stJ S 5) hs8)
      generalize hs5 : stJ S 5 = s at *
      have HS5 := Lib.hid hs5
      clear hs5
      have v2 : (s : Int) < 8 := by omega
      have v3 : (0 : Int) ≤ (s : Int) := by omega
      obtain ⟨c0, c1⟩ := bP_get hk.out s hs8
      go_wp2_with fail
      refine (square_any (X s) (Y s) _).mono ?_
      rintro e w3 ⟨r, rfl, hr, b3⟩
      have B3 : Hid (Below w.heap.size w w3) := b_then hb.out b3
      have R3 : Hid (cn r = S s) := (show cn r = _ from hr).trans hs.out
      clear c0 c1 b3 hr
      go_wp2
      go_ret3
      exact ⟨r, by rw [HS5.out]; rfl, by rw [HS5.out]; exact R3.out, B3.out⟩
theorem implSt_any (F : Nat → Nat) (w : World) (hE : EtAt w) : Calls Tryd.prog 13 #[.agg #[.float .f32 (F 0), .float .f32 (F 1), .float .f32 (F 2), .float .f32 (F 3), .float .f32 (F 4), .float .f32 (F 5), .float .f32 (F 6), .float .f32 (F 7)]] w (RT3 F w) := by
  cases hp : plA8 F
  · exact implSt_no F w hE hp
  · exact implSt_ok F w hp
set_option maxHeartbeats 4000000 in
theorem walk_FnExactStrongestSwing (F : Nat → Nat) (w : World) (hE : EtAt w) : Calls Tryd.prog 4 #[.agg #[.float .f32 (F 0), .float .f32 (F 1), .float .f32 (F 2), .float .f32 (F 3), .float .f32 (F 4), .float .f32 (F 5), .float .f32 (F 6), .float .f32 (F 7)]] w fun e w' => e = .returned (.bool true) ∧ Below w.heap.size w w' := by
  have HE := Lib.hid hE
  have ka : Hid (Blk (w.alloc (.cells #[.float .f32 (F 0), .float .f32 (F 1), .float .f32 (F 2), .float .f32 (F 3), .float .f32 (F 4), .float .f32 (F 5), .float .f32 (F 6), .float .f32 (F 7)] 23)) w.heap.size #[.float .f32 (F 0), .float .f32 (F 1), .float .f32 (F 2), .float .f32 (F 3), .float .f32 (F 4), .float .f32 (F 5), .float .f32 (F 6), .float .f32 (F 7)] 23) := Blk.new _ _ _
  obtain ⟨kc, hkc⟩ : ∃ kc, codeSw F = kc := ⟨_, rfl⟩
  obtain ⟨ks, hks⟩ : ∃ kc, stK F = kc := ⟨_, rfl⟩
  have HKC := Lib.hid hkc; have HKS := Lib.hid hks
  clear hE hkc hks
  go_enter Tryd.func4, Tryd.ntmps4
  go_wp2_with fail
  refine (toA8_any F _).mono ?_
  rintro e w1 ⟨rfl, b1⟩
  have k1 := Lib.hid (Blk.on ka.out (by rfl) b1)
  have B1 : Hid (Below w.heap.size w w1) := b_then (b_alloc (Below.refl _ _) _) b1
  clear b1 ka
  go_wp2_with fail
  refine (specSt_any F _).mono ?_
  rintro e w2 ⟨r1, rfl, g1, b2⟩
  rw [HKC.out, HKS.out]
  have k2 := Lib.hid (Blk.on k1.out (by rfl) b2)
  have G1 : Hid (cn r1 = stR F) := g1
  have B2 : Hid (Below w.heap.size w w2) := b_then B1.out b2
  clear b2 k1 B1 g1
  have c0 : w2.cell? ⟨w.heap.size, 0, none⟩ = some (.float .f32 (F 0)) := k2.out.cell 0; have c1 : w2.cell? ⟨w.heap.size, 1, none⟩ = some (.float .f32 (F 1)) := k2.out.cell 1; have c2 : w2.cell? ⟨w.heap.size, 2, none⟩ = some (.float .f32 (F 2)) := k2.out.cell 2; have c3 : w2.cell? ⟨w.heap.size, 3, none⟩ = some (.float .f32 (F 3)) := k2.out.cell 3; have c4 : w2.cell? ⟨w.heap.size, 4, none⟩ = some (.float .f32 (F 4)) := k2.out.cell 4; have c5 : w2.cell? ⟨w.heap.size, 5, none⟩ = some (.float .f32 (F 5)) := k2.out.cell 5; have c6 : w2.cell? ⟨w.heap.size, 6, none⟩ = some (.float .f32 (F 6)) := k2.out.cell 6; have c7 : w2.cell? ⟨w.heap.size, 7, none⟩ = some (.float .f32 (F 7)) := k2.out.cell 7
  go_wp2_with fail
  clear c0 c1 c2 c3 c4 c5 c6 c7
  refine (toA8_any F _).mono ?_
  rintro e w3 ⟨rfl, b3⟩
  have B4 : Hid (Below w.heap.size w w3) := b_then B2.out b3
  clear b3 k2 B2
  go_wp2_with fail
  refine (implSt_any F _ (HE.out.on (W := w) rfl B4.out)).mono ?_
  rintro e w4 ⟨r2, rfl, g2, b4⟩
  rw [HKC.out, HKS.out]
  have G2 : Hid (cn r2 = stR F) := g2
  have B5 : Hid (Below w.heap.size w w4) := b_then B4.out b4
  clear b4 B4 g2
  obtain ⟨z0, y0, dz0, dy0, cz0, cy0, hs0⟩ := conv2 (G2.out.trans G1.out.symm : cn r2 = cn r1)
  have HS0 := Lib.hid hs0; clear hs0
  go_wp2_with fail
  refine (HS0.out _ _ _).mono ?_
  rintro e w5 ⟨rfl, hw5⟩
  have D5 : Hid (Below w.heap.size w w5) := by
    rw [← hw5]
    have b5 := B5.out
    (repeat (first | exact Below.refl _ _ | assumption | refine b_drewN ?_ _ | refine b_drew ?_ | refine b_then ?_ (by assumption)))
  clear hw5 cz0 cy0
  go_wp2
  go_ret
  exact ⟨rfl, D5.out⟩
end Go.Proofs.YtdpgfbmelnmkdabDoor
