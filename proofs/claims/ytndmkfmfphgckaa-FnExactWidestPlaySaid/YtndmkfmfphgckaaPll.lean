/-
  The law of WidestPlay.
-/
import Derived.Test.YtndmkfmfphgckaaPlj
namespace Go.Proofs.Ytndmkfmfphgckaa
open Go.RowKit Go.ChangeShapes Go.WideShapes Go.Deep
attribute [local go_sem ↓] Go.wp_at_zero Go.wp_at_succ
set_option linter.unusedVariables false
set_option linter.unusedSimpArgs false
theorem fo_of_fl {w : World} {B0 B : Nat} {A : Option Addr} {fs : List Nat} (h : Fl w B0 B A fs) : Fo w B A fs := fun h0 => by
  obtain ⟨b, e, _, h2, hc⟩ := h h0
  exact ⟨b, 0, e, h2, fun i f hf => by rw [Nat.zero_add]; exact hc i f hf⟩
set_option maxRecDepth 100000 in
set_option maxHeartbeats 4000000 in
theorem walk_FnExactWidestPlay (A_0 : Option Addr) (n_0 c_0 : Nat) (p_0 : List Px) (A_1 : Option Addr) (n_1 c_1 : Nat) (p_1 : List Nat) (w : World) (h_0 : Px.In w A_0 n_0 c_0 p_0) (h_1 : FlIn w A_1 n_1 c_1 p_1) :
    Calls Try.prog 13 #[.slice A_0 n_0 c_0, .slice A_1 n_1 c_1] w fun e w' => e = .returned (.bool true) ∧ Below w.heap.size w w' := by
  obtain ⟨hl0, hnc0, hc0, hT0, hw0⟩ := h_0
  have hnm0 : n_0 ≤ maxLen := Nat.le_trans hnc0 hc0
  unfold maxLen at hnm0
  have Hl0 := Lib.hid hl0; clear hl0
  have HT0 := Lib.hid hT0; clear hT0
  have Hw0 := Lib.hid hw0; clear hw0
  clear hnc0 hc0
  obtain ⟨hl1, hnc1, hc1, hT1⟩ := h_1
  have hnm1 : n_1 ≤ maxLen := Nat.le_trans hnc1 hc1
  unfold maxLen at hnm1
  have Hl1 := Lib.hid hl1; clear hl1
  have HT1 := Lib.hid hT1; clear hT1
  clear hnc1 hc1
  by_cases zf1 : 1048576 < (n_1 : Int)
  · go_enter Try.func13, Try.ntmps13
    go_wp2
    go_ret
    exact ⟨rfl, Below.refl _ _⟩
  by_cases z0 : 1048576 < (n_0 : Int)
  · go_enter Try.func13, Try.ntmps13
    go_wp2_with fail
    refine (Px.sz_any _ _ _ _ _ (by unfold maxLen; exact hnm0) (by omega) (by omega)).mono ?_
    rintro e v0 ⟨rfl, rfl⟩
    rw [if_pos (by omega)]
    go_wp2
    go_ret
    exact ⟨rfl, Below.refl _ _⟩
  have kb0 : n_0 ≤ 1048576 := by omega
  have kb1 : n_1 ≤ 1048576 := by omega
  go_enter Try.func13, Try.ntmps13
  go_wp2_with fail
  refine (Px.sz_any _ _ _ _ _ (by unfold maxLen; exact hnm0) (by omega) (by omega)).mono ?_
  rintro e v0 ⟨rfl, rfl⟩
  rw [if_neg (by omega)]
  go_wp2_with fail
  refine (Px.to_any A_0 n_0 c_0 p_0 _ Hl0.out kb0 HT0.out).mono ?_
  rintro e w1 ⟨rfl, m1⟩
  have M1 := Lib.hid m1; clear m1
  have B1 : Hid (Below w.heap.size w w1) := M1.out.2.2.2
  have f1 : w.heap.size < w1.heap.size := M1.out.2.2.1
  have D1 : Hid (Below w.heap.size w w1) := B1.out
  have s1 : w.heap.size ≤ w1.heap.size := B1.out.size
  go_wp2_with fail
  refine (toFloats_any A_1 n_1 c_1 p_1 _ Hl1.out kb1 (HT1.out.keep D1.out)).mono ?_
  rintro e w2 ⟨rfl, m2⟩
  have M2 := Lib.hid m2; clear m2
  have B2 : Hid (Below w1.heap.size w1 w2) := M2.out.2.2.2
  have f2 : w1.heap.size < w2.heap.size := M2.out.2.2.1
  have D2 : Hid (Below w.heap.size w w2) := b_then D1.out B2.out
  have s2 : w1.heap.size ≤ w2.heap.size := B2.out.size
  go_wp2_with fail
  refine (specWidest_any _ _ _ _ _ _ p_0 p_1 _ Hl0.out Hl1.out kb0 kb1 (M1.out.l.keep B2.out) Hw0.out (fo_of_fl M2.out.fl.weak)).mono ?_
  rintro e w3 ⟨r3_1, rfl, g3_1, b3⟩
  have B3 := Lib.hid b3; clear b3
  have G3_1 := Lib.hid g3_1; clear g3_1
  have D3 : Hid (Below w.heap.size w w3) := b_then D2.out B3.out
  have s3 : w2.heap.size ≤ w3.heap.size := B3.out.size
  go_wp2_with fail
  refine (Px.to_any A_0 n_0 c_0 p_0 _ Hl0.out kb0 (HT0.out.keep D3.out)).mono ?_
  rintro e w4 ⟨rfl, m4⟩
  have M4 := Lib.hid m4; clear m4
  have B4 : Hid (Below w3.heap.size w3 w4) := M4.out.2.2.2
  have f4 : w3.heap.size < w4.heap.size := M4.out.2.2.1
  have D4 : Hid (Below w.heap.size w w4) := b_then D3.out B4.out
  have s4 : w3.heap.size ≤ w4.heap.size := B4.out.size
  go_wp2_with fail
  refine (toFloats_any A_1 n_1 c_1 p_1 _ Hl1.out kb1 (HT1.out.keep D4.out)).mono ?_
  rintro e w5 ⟨rfl, m5⟩
  have M5 := Lib.hid m5; clear m5
  have B5 : Hid (Below w4.heap.size w4 w5) := M5.out.2.2.2
  have f5 : w4.heap.size < w5.heap.size := M5.out.2.2.1
  have D5 : Hid (Below w.heap.size w w5) := b_then D4.out B5.out
  have s5 : w4.heap.size ≤ w5.heap.size := B5.out.size
  go_wp2_with fail
  refine (implWidest_any _ _ _ _ _ _ p_0 p_1 _ Hl0.out Hl1.out kb0 kb1 (M4.out.l.keep B5.out) Hw0.out (fo_of_fl M5.out.fl.weak)).mono ?_
  rintro e w6 ⟨r6_1, rfl, g6_1, b6⟩
  have B6 := Lib.hid b6; clear b6
  have G6_1 := Lib.hid g6_1; clear g6_1
  have D6 : Hid (Below w.heap.size w w6) := b_then D5.out B6.out
  have s6 : w5.heap.size ≤ w6.heap.size := B6.out.size
  obtain ⟨z1, y1, dz1, dy1, cz1, cy1, hs1⟩ := conv2 (G6_1.out.trans G3_1.out.symm : cn r6_1 = cn r3_1)
  have HS1 := Lib.hid hs1; clear hs1
  go_wp2_with fail
  refine (HS1.out _ _ _).mono ?_
  rintro e w7 ⟨rfl, hw7⟩
  have B7 : Hid (Below w6.heap.size w6 w7) := by rw [← hw7]; repeat (first | exact Below.refl _ _ | refine b_drewN ?_ _ | refine b_drew ?_)
  clear hw7
  have D7 : Hid (Below w.heap.size w w7) := b_then D6.out B7.out
  have s7 : w6.heap.size ≤ w7.heap.size := B7.out.size
  clear cz1 cy1
  go_wp2_with fail
  refine (Px.to_any A_0 n_0 c_0 p_0 _ Hl0.out kb0 (HT0.out.keep D7.out)).mono ?_
  rintro e w8 ⟨rfl, m8⟩
  have M8 := Lib.hid m8; clear m8
  have B8 : Hid (Below w7.heap.size w7 w8) := M8.out.2.2.2
  have f8 : w7.heap.size < w8.heap.size := M8.out.2.2.1
  have D8 : Hid (Below w.heap.size w w8) := b_then D7.out B8.out
  have s8 : w7.heap.size ≤ w8.heap.size := B8.out.size
  go_wp2_with fail
  refine (Px.eq_any _ _ _ _ _ p_0 p_0 _ Hl0.out rfl kb0 ((((M4.out.l.keep B5.out).keep B6.out).keep B7.out).keep B8.out) M8.out.l).mono ?_
  rintro e w9 ⟨rfl, b9⟩
  have B9 := Lib.hid b9; clear b9
  have D9 : Hid (Below w.heap.size w w9) := b_then D8.out B9.out
  have s9 : w8.heap.size ≤ w9.heap.size := B9.out.size
  go_wp2_with fail
  refine (toFloats_any A_1 n_1 c_1 p_1 _ Hl1.out kb1 (HT1.out.keep D9.out)).mono ?_
  rintro e w10 ⟨rfl, m10⟩
  have M10 := Lib.hid m10; clear m10
  have B10 : Hid (Below w9.heap.size w9 w10) := M10.out.2.2.2
  have f10 : w9.heap.size < w10.heap.size := M10.out.2.2.1
  have D10 : Hid (Below w.heap.size w w10) := b_then D9.out B10.out
  have s10 : w9.heap.size ≤ w10.heap.size := B10.out.size
  go_wp2_with fail
  refine (eqFloats_same _ _ _ _ _ p_1 p_1 _ Hl1.out rfl kb1 (((((M5.out.fl.weak.keep B6.out).keep B7.out).keep B8.out).keep B9.out).keep B10.out) M10.out.fl.weak).mono ?_
  rintro e w11 ⟨rfl, b11⟩
  have B11 := Lib.hid b11; clear b11
  have D11 : Hid (Below w.heap.size w w11) := b_then D10.out B11.out
  have s11 : w10.heap.size ≤ w11.heap.size := B11.out.size
  go_wp2
  go_ret
  exact ⟨rfl, D11.out⟩
end Go.Proofs.Ytndmkfmfphgckaa
