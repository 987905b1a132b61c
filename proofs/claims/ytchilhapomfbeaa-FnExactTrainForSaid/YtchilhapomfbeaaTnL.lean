/-
  The law of TrainFor.
-/
import Derived.Test.YtchilhapomfbeaaTn
import Derived.Test.YtchilhapomfbeaaUTr
import Derived.Deep.DeepCutAuto
namespace Go.Proofs.Ytchilhapomfbeaa
open Go.RowKit Go.ChangeShapes Go.WideShapes Go.Deep
attribute [local go_sem ↓] Go.wp_at_zero Go.wp_at_succ
set_option linter.unusedVariables false
set_option linter.unusedSimpArgs false
set_option maxRecDepth 100000
theorem trainC_le (zs : List Int) (C : Ch) : (trainC zs C).length ≤ 2 := by
  unfold trainC
  split <;> simp
theorem AtLCh.mb {w w' : World} {q : Nat} {C : Ch} {A : Option Addr} (h : AtLCh w q C) (hm : MB A w w') (hd : ∀ a, A = some a → a.block ≠ q) : AtLCh w' q C := (hm.2.1 q hd).trans h
/-- A train of the ps, somewhere below. -/
def LTr (ps : List Px) (w : World) (A : Option Addr) : Prop := Px.L w w.heap.size A ps ∧ ∀ a, A = some a → a.block < w.heap.size
theorem LTr.keep {ps : List Px} {w w' : World} {A : Option Addr} (h : LTr ps w A) (hb : Below w.heap.size w w') : LTr ps w' A := ⟨h.1.keep hb, fun a ha => Nat.lt_of_lt_of_le (h.2 a ha) hb.size⟩
theorem LTr.mb {ps : List Px} {w w' : World} {A A' : Option Addr} (h : LTr ps w A) (hm : MB A' w w') (hd : ∀ a a', A = some a → A' = some a' → a'.block ≠ a.block) : LTr ps w' A := ⟨h.1.mb hm hd, fun a ha => by rw [hm.1]; exact h.2 a ha⟩
set_option maxHeartbeats 8000000 in
theorem walk_FnExactTrainFor (A : Option Addr) (n c : Nat) (zs : List Int) (C : Ch) (wC : (Lit.int .i16 C.a).wf = true ∧ (Lit.int .i16 C.b).wf = true ∧ (Lit.int .i16 C.c).wf = true ∧ (Lit.int .i16 C.d).wf = true) (w : World) (h : IiIn w A n c zs) :
    Calls Try.prog 3 #[.slice A n c, .agg #[.int .i16 C.a, .int .i16 C.b, .int .i16 C.c, .int .i16 C.d]] w fun e w' => e = .returned (.bool true) ∧ Below w.heap.size w w' := by
  obtain ⟨hl, hnc, hc, hT, hw⟩ := h
  have Hl := Lib.hid hl; clear hl
  have HT := Lib.hid hT; clear hT
  have Hw := Lib.hid hw; clear hw
  have hnm : n ≤ maxLen := Nat.le_trans hnc hc
  unfold maxLen at hnm
  clear hnc hc
  have HC := chW C wC
  have hsp := fun (A : Option Addr) (n k : Nat) (zs : List Int) (C : Ch) (w : World) hl hn hw hT hC => specTrain_any A n k zs C w hl hn hw hT hC
  have him := fun (A : Option Addr) (n k : Nat) (zs : List Int) (C : Ch) (w : World) hl hn hw hT hC => implTrain_any A n k zs C w hl hn hw hT hC
  obtain ⟨TP, hTP⟩ : ∃ ps, trainC zs C = ps := ⟨_, rfl⟩
  obtain ⟨KK, hKK⟩ : ∃ k, codeW zs (chL C) = k := ⟨_, rfl⟩
  have SPC : Hid (∀ (A : Option Addr) (k : Nat) (w : World), n ≤ 1048576 → Ii w w.heap.size A zs → Calls Try.prog 15 #[.slice A n k, .agg #[.int .i16 C.a, .int .i16 C.b, .int .i16 C.c, .int .i16 C.d]] w (RTn TP KK w)) := fun A k w hn hT => by rw [← hTP, ← hKK]; exact specTrain_any A n k zs C w Hl.out hn Hw.out hT HC
  have IMC : Hid (∀ (A : Option Addr) (k : Nat) (w : World), n ≤ 1048576 → Ii w w.heap.size A zs → Calls Try.prog 18 #[.slice A n k, .agg #[.int .i16 C.a, .int .i16 C.b, .int .i16 C.c, .int .i16 C.d]] w (RTn TP KK w)) := fun A k w hn hT => by rw [← hTP, ← hKK]; exact implTrain_any A n k zs C w Hl.out hn Hw.out hT HC
  have HLE : Hid (TP.length ≤ 2) := (by show _ ≤ _; rw [← hTP]; exact trainC_le zs C)
  clear hTP hKK hsp him
  by_cases z0 : 1048576 < (n : Int)
  · go_enter Try.func3, Try.ntmps3
    go_wp2
    go_ret
    refine ⟨rfl, ?_⟩
    repeat (first | exact Below.refl _ _ | refine b_alloc ?_ _)
  have kb : n ≤ 1048576 := by omega
  have bw : Below w.heap.size w (w.alloc (.cells #[.int .i16 C.a, .int .i16 C.b, .int .i16 C.c, .int .i16 C.d] 25)) := b_alloc (Below.refl _ _) _
  have k0 := AtLCh.new w C
  have h0 := HT.out.keep bw
  go_enter Try.func3, Try.ntmps3
  go_upto_region 3 with fail
  generalize (w.alloc (.cells #[.int .i16 C.a, .int .i16 C.b, .int .i16 C.c, .int .i16 C.d] 25)) = W at *
  have K0 := Lib.hid k0; have Bw := Lib.hid bw; have H0 := Lib.hid h0
  obtain ⟨c0, c1, c2, c3⟩ := k0.cells
  have hs0 : w.heap.size < W.heap.size := k0.lt
  clear k0 bw h0
  go_cut [5, 6] (fun s5 s6 wx => (∃ A1 n1 c1, s5 = .slice A1 n1 c1 ∧ TP.length = n1 ∧ LTr TP wx A1) ∧ s6 = .int .i64 KK ∧ Below W.heap.size W wx)
  case first =>
    go_region_law (first
      | (go_simp; go_at_call 16; refine (toInts_any A n c zs _ Hl.out kb (H0.out.keep (by (repeat (first | exact Below.refl _ _ | refine b_drewN ?_ _ | refine b_drew ?_ | refine b_alloc ?_ _ | refine b_then ?_ (by assumption)))))).mono ?_; rintro e w1 ⟨rfl, m1⟩; have M1 := Lib.hid m1; have b1 := m1.2.2.2; clear m1; obtain ⟨d0, d1, d2, d3⟩ := (AtLCh.under K0.out hs0 (show Below W.heap.size W w1 by (repeat (first | exact Below.refl _ _ | refine b_drewN ?_ _ | refine b_drew ?_ | refine b_alloc ?_ _ | refine b_then ?_ (by assumption))))).cells; dsimp only)
      | (go_simp; go_at_call 17; refine (toCh_any C _).mono ?_; rintro e w2 ⟨rfl, b2⟩; obtain ⟨d0, d1, d2, d3⟩ := (AtLCh.under K0.out hs0 (show Below W.heap.size W w2 by (repeat (first | exact Below.refl _ _ | refine b_drewN ?_ _ | refine b_drew ?_ | refine b_alloc ?_ _ | refine b_then ?_ (by assumption))))).cells; dsimp only)
      | (go_simp; go_at_call 15; refine (SPC.out _ _ _ kb (M1.out.ii.keep (by (repeat (first | exact Below.refl _ _ | refine b_drewN ?_ _ | refine b_drew ?_ | refine b_alloc ?_ _ | refine b_then ?_ (by assumption)))))).mono ?_; rintro e w3 ⟨A3, n3, c3, rfl, hn3, hl3, ht3, ha3, b3⟩; have Z3 : Hid (LTr TP w3 A3) := ⟨hl3, fun a ha => (ha3 a ha).2⟩; have N3 := Lib.hid hn3; clear hn3 hl3 ht3 ha3; dsimp only))
    all_goals
      go_wp2_with fail
      go_meet
      refine ⟨⟨_, _, _, rfl, N3.out, Z3.out.keep ?_⟩, rfl, ?_⟩
      · (repeat (first | exact Below.refl _ _ | refine b_drewN ?_ _ | refine b_drew ?_ | refine b_alloc ?_ _ | refine b_then ?_ (by assumption)))
      · (repeat (first | exact Below.refl _ _ | refine b_drewN ?_ _ | refine b_drew ?_ | refine b_alloc ?_ _ | refine b_then ?_ (by assumption)))
  case rest =>
    obtain ⟨⟨A1, n1, cc1, rfl, hn1, hl1⟩, rfl, hbc⟩ := hcut
    have L1 := Lib.hid hl1; clear hl1
    obtain rfl : TP.length = n1 := hn1
    have k1 := AtLCh.under K0.out hs0 hbc
    have D1 : Hid (Below w.heap.size w wc) := b_then Bw.out hbc
    have e1 := hbc.size
    clear hbc c0 c1 c2 c3
    obtain ⟨c0, c1, c2, c3⟩ := k1.cells
    have K1 := Lib.hid k1; clear k1
    obtain ⟨N, hN⟩ : ∃ N, TP.length = N := ⟨_, rfl⟩
    rw [hN]
    have HN := Lib.hid hN
    have hN2 : N ≤ 2 := by have := HLE.out; omega
    clear hN
    go_wp2_with fail
    refine (toInts_any A n c zs _ Hl.out kb (HT.out.keep D1.out)).mono ?_
    rintro e w2 ⟨rfl, m2⟩
    have M2 := Lib.hid m2; have B2 := Lib.hid m2.2.2.2; have f2 : wc.heap.size < w2.heap.size := m2.2.2.1; clear m2
    have D2 : Hid (Below w.heap.size w w2) := b_then D1.out B2.out
    have K2 := Lib.hid (AtLCh.on K1.out (by rfl) B2.out)
    obtain ⟨d0, d1, d2, d3⟩ := K2.out.cells
    clear c0 c1 c2 c3
    go_wp2_with fail
    refine (toCh_any C _).mono ?_
    rintro e w3 ⟨rfl, b3⟩
    have B3 := Lib.hid b3; have f3 := b3.size; clear b3 d0 d1 d2 d3
    have D3 : Hid (Below w.heap.size w w3) := b_then D2.out B3.out
    go_wp2_with fail
    refine (IMC.out _ _ _ kb (M2.out.ii.keep B3.out)).mono ?_
    rintro e w4 ⟨A4, n4, c4, rfl, hn4, hl4, ht4, ha4, b4⟩
    obtain rfl : N = n4 := HN.out.symm.trans hn4
    have L4 : Hid (LTr TP w4 A4) := ⟨hl4, fun a ha => (ha4 a ha).2⟩
    have T4 := Lib.hid ht4; have Y4 := Lib.hid ha4; have B4 := Lib.hid b4; have f4 := b4.size; clear hn4 hl4 ht4 ha4 b4
    have D4 : Hid (Below w.heap.size w w4) := b_then D3.out B4.out
    have L14 : Hid (LTr TP w4 A1) := ((L1.out.keep B2.out).keep B3.out).keep B4.out
    go_wp2_with fail
    refine (Px.eq_any _ _ _ _ _ TP TP _ HN.out rfl (by omega) L4.out.1 L14.out.1).mono ?_
    rintro e w5 ⟨rfl, b5⟩
    have B5 := Lib.hid b5; have f5 := b5.size; clear b5
    have D5 : Hid (Below w.heap.size w w5) := b_then D4.out B5.out
    go_wp2_with fail
    refine (toInts_any A n c zs _ Hl.out kb (HT.out.keep D5.out)).mono ?_
    rintro e w6 ⟨rfl, m6⟩
    have M6 := Lib.hid m6; have B6 := Lib.hid m6.2.2.2; have f6 : w5.heap.size < w6.heap.size := m6.2.2.1; clear m6
    have D6 : Hid (Below w.heap.size w w6) := b_then D5.out B6.out
    go_wp2_with fail
    refine (eqInts_same _ _ _ _ _ zs _ Hl.out kb ((((M2.out.ii.keep B3.out).keep B4.out).keep B5.out).keep B6.out) M6.out.ii).mono ?_
    rintro e w7 ⟨rfl, b7⟩
    have B7 := Lib.hid b7; have f7 := b7.size; clear b7
    have D7 : Hid (Below w.heap.size w w7) := b_then D6.out B7.out
    have B47 : Hid (Below w4.heap.size w4 w7) := b_then (b_then B5.out B6.out) B7.out
    have B27 : Hid (Below w2.heap.size w2 w7) := b_then (b_then B3.out B4.out) B47.out
    go_wp2_with fail
    refine (markInts_any _ _ _ _ _ kb (by omega) (fun _ => ⟨_, rfl, there_of_block M2.out.1 (B27.out.block _ f2)⟩)).mono ?_
    rintro e w8 ⟨rfl, b8, _⟩
    have B8 := Lib.hid b8; clear b8
    have S8 := Lib.hid B8.out.1
    have f8 : w7.heap.size ≤ w8.heap.size := by rw [S8.out]; exact Nat.le_refl _
    have g8 : w8.heap.size ≤ w7.heap.size := by rw [S8.out]; exact Nat.le_refl _
    have e2 : w.heap.size ≤ wc.heap.size := by omega
    have D8 : Hid (Below w.heap.size w w8) := D7.out.trans (B8.out.2.2 _ (fun a h => by cases h; show w.heap.size ≤ wc.heap.size; omega))
    have L48 : Hid (LTr TP w8 A4) := (L4.out.keep B47.out).mb B8.out (fun a a' ha ha' => by cases ha'; have := (Y4.out a ha).1; show wc.heap.size ≠ a.block; omega)
    have L18 : Hid (LTr TP w8 A1) := (L14.out.keep B47.out).mb B8.out (fun a a' ha ha' => by cases ha'; have := L1.out.2 a ha; show wc.heap.size ≠ a.block; omega)
    go_wp2_with fail
    refine (Px.eq_any _ _ _ _ _ TP TP _ HN.out rfl (by omega) L48.out.1 L18.out.1).mono ?_
    rintro e w9 ⟨rfl, b9⟩
    have B9 := Lib.hid b9; have f9 := b9.size; clear b9
    have D9 : Hid (Below w.heap.size w w9) := b_then D8.out B9.out
    have Z9 : Hid (0 < N → ∃ b, A4 = some ⟨b, 0, none⟩ ∧ b < w9.heap.size ∧ w9.there b 0 (N * 3)) := fun h0 => by
      obtain ⟨b, e, ht⟩ := T4.out h0
      have hy := Y4.out _ e
      have hy1 : w3.heap.size ≤ b := hy.1
      have hy2 : b < w4.heap.size := hy.2
      refine ⟨b, e, by omega, there_of_block (there_of_block (there_of_block ht (B47.out.block b hy2)) (B8.out.2.1 b (fun a h => by cases h; show wc.heap.size ≠ b; omega))) (B9.out.block b (by omega))⟩
    go_wp2_with fail
    refine (markTrR_any A4 N _ _ (by omega) Z9.out).mono ?_
    rintro e w10 ⟨rfl, b10, mk⟩
    have B10 := Lib.hid b10; have MK := Lib.hid mk; clear b10 mk
    have S10 := Lib.hid B10.out.1
    have f10 : w9.heap.size ≤ w10.heap.size := by rw [S10.out]; exact Nat.le_refl _
    have g10 : w10.heap.size ≤ w9.heap.size := by rw [S10.out]; exact Nat.le_refl _
    have D10 : Hid (Below w.heap.size w w10) := D9.out.trans (B10.out.2.2 _ (fun a h => by have := (Y4.out a h).1; omega))
    have L110 : Hid (LTr TP w10 A1) := (L18.out.keep B9.out).mb B10.out (fun a a' ha ha' => by have := (Y4.out a' ha').1; have := L1.out.2 a ha; omega)
    have K10 : Hid (AtLCh w10 w.heap.size C) := AtLCh.mb (AtLCh.on (AtLCh.mb (AtLCh.on K2.out (by rfl) B27.out) B8.out (fun a h => by cases h; show wc.heap.size ≠ w.heap.size; omega)) (by rfl) B9.out) B10.out (fun a h => by have := (Y4.out a h).1; omega)
    go_wp2_with fail
    refine (heldTrR_any A4 N _ _ (by omega) MK.out).mono ?_
    rintro e w11 ⟨rfl, b11⟩
    have B11 := Lib.hid b11; have f11 := b11.size; clear b11
    have D11 : Hid (Below w.heap.size w w11) := b_then D10.out B11.out
    have K11 := Lib.hid (AtLCh.on K10.out (by rfl) B11.out)
    have hs11 : w.heap.size < w11.heap.size := K11.out.lt
    have H11 := Lib.hid (HT.out.keep D11.out)
    have L111 : Hid (LTr TP w11 A1) := L110.out.keep B11.out
    have MK11 := Lib.hid (MK.out.keep B11.out)
    obtain ⟨c0, c1, c2, c3⟩ := K11.out.cells
    go_upto_region 22 with fail
    go_cut [13, 14] (fun s13 s14 wx => (∃ A1 n1 c1, s13 = .slice A1 n1 c1 ∧ TP.length = n1 ∧ LTr TP wx A1) ∧ s14 = .int .i64 KK ∧ Below w11.heap.size w11 wx)
    case first =>
      go_region_law (first
        | (go_simp; go_at_call 16; refine (toInts_any A n c zs _ Hl.out kb (H11.out.keep (by (repeat (first | exact Below.refl _ _ | refine b_drewN ?_ _ | refine b_drew ?_ | refine b_alloc ?_ _ | refine b_then ?_ (by assumption)))))).mono ?_; rintro e w1 ⟨rfl, m1⟩; have M1 := Lib.hid m1; have b1 := m1.2.2.2; clear m1; obtain ⟨d0, d1, d2, d3⟩ := (AtLCh.under K11.out hs11 (show Below w11.heap.size w11 w1 by (repeat (first | exact Below.refl _ _ | refine b_drewN ?_ _ | refine b_drew ?_ | refine b_alloc ?_ _ | refine b_then ?_ (by assumption))))).cells; dsimp only)
        | (go_simp; go_at_call 17; refine (toCh_any C _).mono ?_; rintro e w2 ⟨rfl, b2⟩; obtain ⟨d0, d1, d2, d3⟩ := (AtLCh.under K11.out hs11 (show Below w11.heap.size w11 w2 by (repeat (first | exact Below.refl _ _ | refine b_drewN ?_ _ | refine b_drew ?_ | refine b_alloc ?_ _ | refine b_then ?_ (by assumption))))).cells; dsimp only)
        | (go_simp; go_at_call 18; refine (IMC.out _ _ _ kb (M1.out.ii.keep (by (repeat (first | exact Below.refl _ _ | refine b_drewN ?_ _ | refine b_drew ?_ | refine b_alloc ?_ _ | refine b_then ?_ (by assumption)))))).mono ?_; rintro e w3 ⟨A3, n3, c3, rfl, hn3, hl3, ht3, ha3, b3⟩; have Z3 : Hid (LTr TP w3 A3) := ⟨hl3, fun a ha => (ha3 a ha).2⟩; have N3 := Lib.hid hn3; clear hn3 hl3 ht3 ha3; dsimp only))
      all_goals
        go_wp2_with fail
        go_meet
        refine ⟨⟨_, _, _, rfl, N3.out, Z3.out.keep ?_⟩, rfl, ?_⟩
        · (repeat (first | exact Below.refl _ _ | refine b_drewN ?_ _ | refine b_drew ?_ | refine b_alloc ?_ _ | refine b_then ?_ (by assumption)))
        · (repeat (first | exact Below.refl _ _ | refine b_drewN ?_ _ | refine b_drew ?_ | refine b_alloc ?_ _ | refine b_then ?_ (by assumption)))
    case rest =>
      obtain ⟨⟨A5, n5, c5, rfl, hn5, hl5⟩, rfl, hbd⟩ := hcut
      obtain rfl : N = n5 := HN.out.symm.trans hn5
      have L5 := Lib.hid hl5; clear hl5 hn5
      have D12 : Hid (Below w.heap.size w wc) := b_then D11.out hbd
      have L112 : Hid (LTr TP wc A1) := L111.out.keep hbd
      have MK12 := Lib.hid (MK11.out.keep hbd)
      clear hbd c0 c1 c2 c3
      go_wp2_with fail
      refine (Px.eq_any _ _ _ _ _ TP TP _ HN.out rfl (by omega) L5.out.1 L112.out.1).mono ?_
      rintro e w13 ⟨rfl, b13⟩
      have D13 : Hid (Below w.heap.size w w13) := b_then D12.out b13
      have MK13 := Lib.hid (MK12.out.keep b13)
      clear b13
      go_wp2_with fail
      refine (heldTrR_any A4 N _ _ (by omega) MK13.out).mono ?_
      rintro e w14 ⟨rfl, b14⟩
      have D14 : Hid (Below w.heap.size w w14) := b_then D13.out b14
      clear b14
      go_wp2
      go_ret
      exact ⟨rfl, D14.out⟩
end Go.Proofs.Ytchilhapomfbeaa
