/-
  The law of PlayBounds.
-/
import Derived.Test.YtndmkfmfphgckaaPlh
namespace Go.Proofs.Ytndmkfmfphgckaa
open Go.RowKit Go.ChangeShapes Go.WideShapes Go.Deep
attribute [local go_sem ↓] Go.wp_at_zero Go.wp_at_succ
set_option linter.unusedVariables false
set_option linter.unusedSimpArgs false
theorem fo_of_fl {w : World} {B0 B : Nat} {A : Option Addr} {fs : List Nat} (h : Fl w B0 B A fs) : Fo w B A fs := fun h0 => by
  obtain ⟨b, e, _, h2, hc⟩ := h h0
  exact ⟨b, 0, e, h2, fun i f hf => by rw [Nat.zero_add]; exact hc i f hf⟩
set_option maxRecDepth 100000 in
set_option maxHeartbeats 4000000 in
theorem walk_FnExactPlayBounds (A_0 : Option Addr) (n_0 c_0 : Nat) (p_0 : List Px) (A_1 : Option Addr) (n_1 c_1 : Nat) (p_1 : List Nat) (A_2 : Option Addr) (n_2 c_2 : Nat) (p_2 : List Nat) (w : World) (h_0 : Px.In w A_0 n_0 c_0 p_0) (h_1 : FlIn w A_1 n_1 c_1 p_1) (h_2 : FlIn w A_2 n_2 c_2 p_2) :
    Calls Try.prog 12 #[.slice A_0 n_0 c_0, .slice A_1 n_1 c_1, .slice A_2 n_2 c_2] w fun e w' => e = .returned (.bool true) ∧ Below w.heap.size w w' := by
  obtain ⟨hl0, hnc0, hc0, hT0, hw0⟩ := h_0
  have hnm0 : n_0 ≤ maxLen := Nat.le_trans hnc0 hc0
  unfold maxLen at hnm0
  have Hl0 := Lib.hid hl0; clear hl0
  have HT0 := Lib.hid hT0; clear hT0
  have Hw0 := Lib.hid hw0; clear hw0
  clear hnc0 hc0
  obtain ⟨hl1, hnc1, hc1, hT1⟩ := h_1
  have hnm1 : n_1 ≤ maxLen := Nat.le_trans hnc1 hc1
  unfold maxLen at hnm1
  have Hl1 := Lib.hid hl1; clear hl1
  have HT1 := Lib.hid hT1; clear hT1
  clear hnc1 hc1
  obtain ⟨hl2, hnc2, hc2, hT2⟩ := h_2
  have hnm2 : n_2 ≤ maxLen := Nat.le_trans hnc2 hc2
  unfold maxLen at hnm2
  have Hl2 := Lib.hid hl2; clear hl2
  have HT2 := Lib.hid hT2; clear hT2
  clear hnc2 hc2
  by_cases zf1 : 1048576 < (n_1 : Int)
  · go_enter Try.func12, Try.ntmps12
    go_wp2
    go_ret
    exact ⟨rfl, Below.refl _ _⟩
  by_cases zf2 : 1048576 < (n_2 : Int)
  · go_enter Try.func12, Try.ntmps12
    go_wp2
    go_ret
    exact ⟨rfl, Below.refl _ _⟩
  by_cases z0 : 1048576 < (n_0 : Int)
  · go_enter Try.func12, Try.ntmps12
    go_wp2_with fail
    refine (Px.sz_any _ _ _ _ _ (by unfold maxLen; exact hnm0) (by omega) (by omega)).mono ?_
    rintro e v0 ⟨rfl, rfl⟩
    rw [if_pos (by omega)]
    go_wp2
    go_ret
    exact ⟨rfl, Below.refl _ _⟩
  have kb0 : n_0 ≤ 1048576 := by omega
  have kb1 : n_1 ≤ 1048576 := by omega
  have kb2 : n_2 ≤ 1048576 := by omega
  go_enter Try.func12, Try.ntmps12
  go_wp2_with fail
  refine (Px.sz_any _ _ _ _ _ (by unfold maxLen; exact hnm0) (by omega) (by omega)).mono ?_
  rintro e v0 ⟨rfl, rfl⟩
  rw [if_neg (by omega)]
  go_wp2_with fail
  refine (Px.to_any A_0 n_0 c_0 p_0 _ Hl0.out kb0 HT0.out).mono ?_
  rintro e w1 ⟨rfl, m1⟩
  have M1 := Lib.hid m1; clear m1
  have B1 : Hid (Below w.heap.size w w1) := M1.out.2.2.2
  have f1 : w.heap.size < w1.heap.size := M1.out.2.2.1
  have D1 : Hid (Below w.heap.size w w1) := B1.out
  have s1 : w.heap.size ≤ w1.heap.size := B1.out.size
  go_wp2_with fail
  refine (toFloats_any A_1 n_1 c_1 p_1 _ Hl1.out kb1 (HT1.out.keep D1.out)).mono ?_
  rintro e w2 ⟨rfl, m2⟩
  have M2 := Lib.hid m2; clear m2
  have B2 : Hid (Below w1.heap.size w1 w2) := M2.out.2.2.2
  have f2 : w1.heap.size < w2.heap.size := M2.out.2.2.1
  have D2 : Hid (Below w.heap.size w w2) := b_then D1.out B2.out
  have s2 : w1.heap.size ≤ w2.heap.size := B2.out.size
  go_wp2_with fail
  refine (toFloats_any A_2 n_2 c_2 p_2 _ Hl2.out kb2 (HT2.out.keep D2.out)).mono ?_
  rintro e w3 ⟨rfl, m3⟩
  have M3 := Lib.hid m3; clear m3
  have B3 : Hid (Below w2.heap.size w2 w3) := M3.out.2.2.2
  have f3 : w2.heap.size < w3.heap.size := M3.out.2.2.1
  have D3 : Hid (Below w.heap.size w w3) := b_then D2.out B3.out
  have s3 : w2.heap.size ≤ w3.heap.size := B3.out.size
  go_wp2_with fail
  refine (specBounds_any _ _ _ _ _ _ _ _ _ p_0 p_1 p_2 _ Hl0.out Hl1.out Hl2.out kb0 kb1 kb2 ((M1.out.l.keep B2.out).keep B3.out) Hw0.out (fo_of_fl (M2.out.fl.weak.keep B3.out)) (fo_of_fl M3.out.fl.weak)).mono ?_
  rintro e w4 ⟨r4_0, r4_1, rfl, g4_0, g4_1, b4⟩
  have B4 := Lib.hid b4; clear b4
  have G4_0 := Lib.hid g4_0; clear g4_0
  have G4_1 := Lib.hid g4_1; clear g4_1
  have D4 : Hid (Below w.heap.size w w4) := b_then D3.out B4.out
  have s4 : w3.heap.size ≤ w4.heap.size := B4.out.size
  go_wp2_with fail
  refine (Px.to_any A_0 n_0 c_0 p_0 _ Hl0.out kb0 (HT0.out.keep D4.out)).mono ?_
  rintro e w5 ⟨rfl, m5⟩
  have M5 := Lib.hid m5; clear m5
  have B5 : Hid (Below w4.heap.size w4 w5) := M5.out.2.2.2
  have f5 : w4.heap.size < w5.heap.size := M5.out.2.2.1
  have D5 : Hid (Below w.heap.size w w5) := b_then D4.out B5.out
  have s5 : w4.heap.size ≤ w5.heap.size := B5.out.size
  go_wp2_with fail
  refine (toFloats_any A_1 n_1 c_1 p_1 _ Hl1.out kb1 (HT1.out.keep D5.out)).mono ?_
  rintro e w6 ⟨rfl, m6⟩
  have M6 := Lib.hid m6; clear m6
  have B6 : Hid (Below w5.heap.size w5 w6) := M6.out.2.2.2
  have f6 : w5.heap.size < w6.heap.size := M6.out.2.2.1
  have D6 : Hid (Below w.heap.size w w6) := b_then D5.out B6.out
  have s6 : w5.heap.size ≤ w6.heap.size := B6.out.size
  go_wp2_with fail
  refine (toFloats_any A_2 n_2 c_2 p_2 _ Hl2.out kb2 (HT2.out.keep D6.out)).mono ?_
  rintro e w7 ⟨rfl, m7⟩
  have M7 := Lib.hid m7; clear m7
  have B7 : Hid (Below w6.heap.size w6 w7) := M7.out.2.2.2
  have f7 : w6.heap.size < w7.heap.size := M7.out.2.2.1
  have D7 : Hid (Below w.heap.size w w7) := b_then D6.out B7.out
  have s7 : w6.heap.size ≤ w7.heap.size := B7.out.size
  go_wp2_with fail
  refine (implBounds_any _ _ _ _ _ _ _ _ _ p_0 p_1 p_2 _ Hl0.out Hl1.out Hl2.out kb0 kb1 kb2 ((M5.out.l.keep B6.out).keep B7.out) Hw0.out (fo_of_fl (M6.out.fl.weak.keep B7.out)) (fo_of_fl M7.out.fl.weak)).mono ?_
  rintro e w8 ⟨r8_0, r8_1, rfl, g8_0, g8_1, b8⟩
  have B8 := Lib.hid b8; clear b8
  have G8_0 := Lib.hid g8_0; clear g8_0
  have G8_1 := Lib.hid g8_1; clear g8_1
  have D8 : Hid (Below w.heap.size w w8) := b_then D7.out B8.out
  have s8 : w7.heap.size ≤ w8.heap.size := B8.out.size
  obtain ⟨z0, y0, dz0, dy0, cz0, cy0, hs0⟩ := conv2 (G8_0.out.trans G4_0.out.symm : cn r8_0 = cn r4_0)
  have HS0 := Lib.hid hs0; clear hs0
  obtain ⟨z1, y1, dz1, dy1, cz1, cy1, hs1⟩ := conv2 (G8_1.out.trans G4_1.out.symm : cn r8_1 = cn r4_1)
  have HS1 := Lib.hid hs1; clear hs1
  go_wp2_with fail
  refine (HS0.out _ _ _).mono ?_
  rintro e w9 ⟨rfl, hw9⟩
  have B9 : Hid (Below w8.heap.size w8 w9) := by rw [← hw9]; repeat (first | exact Below.refl _ _ | refine b_drewN ?_ _ | refine b_drew ?_)
  clear hw9
  have D9 : Hid (Below w.heap.size w w9) := b_then D8.out B9.out
  have s9 : w8.heap.size ≤ w9.heap.size := B9.out.size
  go_wp2_with fail
  refine (HS1.out _ _ _).mono ?_
  rintro e w10 ⟨rfl, hw10⟩
  have B10 : Hid (Below w9.heap.size w9 w10) := by rw [← hw10]; repeat (first | exact Below.refl _ _ | refine b_drewN ?_ _ | refine b_drew ?_)
  clear hw10
  have D10 : Hid (Below w.heap.size w w10) := b_then D9.out B10.out
  have s10 : w9.heap.size ≤ w10.heap.size := B10.out.size
  clear cz0 cy0
  clear cz1 cy1
  go_wp2_with fail
  refine (Px.to_any A_0 n_0 c_0 p_0 _ Hl0.out kb0 (HT0.out.keep D10.out)).mono ?_
  rintro e w11 ⟨rfl, m11⟩
  have M11 := Lib.hid m11; clear m11
  have B11 : Hid (Below w10.heap.size w10 w11) := M11.out.2.2.2
  have f11 : w10.heap.size < w11.heap.size := M11.out.2.2.1
  have D11 : Hid (Below w.heap.size w w11) := b_then D10.out B11.out
  have s11 : w10.heap.size ≤ w11.heap.size := B11.out.size
  go_wp2_with fail
  refine (Px.eq_any _ _ _ _ _ p_0 p_0 _ Hl0.out rfl kb0 ((((((M5.out.l.keep B6.out).keep B7.out).keep B8.out).keep B9.out).keep B10.out).keep B11.out) M11.out.l).mono ?_
  rintro e w12 ⟨rfl, b12⟩
  have B12 := Lib.hid b12; clear b12
  have D12 : Hid (Below w.heap.size w w12) := b_then D11.out B12.out
  have s12 : w11.heap.size ≤ w12.heap.size := B12.out.size
  go_wp2_with fail
  refine (toFloats_any A_1 n_1 c_1 p_1 _ Hl1.out kb1 (HT1.out.keep D12.out)).mono ?_
  rintro e w13 ⟨rfl, m13⟩
  have M13 := Lib.hid m13; clear m13
  have B13 : Hid (Below w12.heap.size w12 w13) := M13.out.2.2.2
  have f13 : w12.heap.size < w13.heap.size := M13.out.2.2.1
  have D13 : Hid (Below w.heap.size w w13) := b_then D12.out B13.out
  have s13 : w12.heap.size ≤ w13.heap.size := B13.out.size
  go_wp2_with fail
  refine (eqFloats_same _ _ _ _ _ p_1 p_1 _ Hl1.out rfl kb1 (((((((M6.out.fl.weak.keep B7.out).keep B8.out).keep B9.out).keep B10.out).keep B11.out).keep B12.out).keep B13.out) M13.out.fl.weak).mono ?_
  rintro e w14 ⟨rfl, b14⟩
  have B14 := Lib.hid b14; clear b14
  have D14 : Hid (Below w.heap.size w w14) := b_then D13.out B14.out
  have s14 : w13.heap.size ≤ w14.heap.size := B14.out.size
  go_wp2_with fail
  refine (toFloats_any A_2 n_2 c_2 p_2 _ Hl2.out kb2 (HT2.out.keep D14.out)).mono ?_
  rintro e w15 ⟨rfl, m15⟩
  have M15 := Lib.hid m15; clear m15
  have B15 : Hid (Below w14.heap.size w14 w15) := M15.out.2.2.2
  have f15 : w14.heap.size < w15.heap.size := M15.out.2.2.1
  have D15 : Hid (Below w.heap.size w w15) := b_then D14.out B15.out
  have s15 : w14.heap.size ≤ w15.heap.size := B15.out.size
  go_wp2_with fail
  refine (eqFloats_same _ _ _ _ _ p_2 p_2 _ Hl2.out rfl kb2 ((((((((M7.out.fl.weak.keep B8.out).keep B9.out).keep B10.out).keep B11.out).keep B12.out).keep B13.out).keep B14.out).keep B15.out) M15.out.fl.weak).mono ?_
  rintro e w16 ⟨rfl, b16⟩
  have B16 := Lib.hid b16; clear b16
  have D16 : Hid (Below w.heap.size w w16) := b_then D15.out B16.out
  have s16 : w15.heap.size ≤ w16.heap.size := B16.out.size
  go_wp2
  go_ret
  exact ⟨rfl, D16.out⟩
end Go.Proofs.Ytndmkfmfphgckaa
