/-
  The law of PlaysOf.
-/
import Derived.Test.YtndmkfmfphgckabPob
namespace Go.Proofs.Ytndmkfmfphgckab
open Go.RowKit Go.ChangeShapes Go.WideShapes Go.Deep
attribute [local go_sem ↓] Go.wp_at_zero Go.wp_at_succ
set_option linter.unusedVariables false
set_option linter.unusedSimpArgs false
set_option maxRecDepth 100000 in
set_option maxHeartbeats 4000000 in
theorem walk_FnExactPlaysOf (A_0 : Option Addr) (n_0 c_0 : Nat) (p_0 : List Px) (A_1 : Option Addr) (n_1 c_1 : Nat) (p_1 : List Th) (w : World) (h_0 : Px.In w A_0 n_0 c_0 p_0) (h_1 : Th.In w A_1 n_1 c_1 p_1) :
    Calls Try.prog 3 #[.slice A_0 n_0 c_0, .slice A_1 n_1 c_1] w fun e w' => e = .returned (.bool true) ∧ Below w.heap.size w w' := by
  obtain ⟨hl0, hnc0, hc0, hT0, hw0⟩ := h_0
  have hnm0 : n_0 ≤ maxLen := Nat.le_trans hnc0 hc0
  unfold maxLen at hnm0
  have Hl0 := Lib.hid hl0; clear hl0
  have HT0 := Lib.hid hT0; clear hT0
  have Hw0 := Lib.hid hw0; clear hw0
  clear hnc0 hc0
  obtain ⟨hl1, hnc1, hc1, hT1, hw1⟩ := h_1
  have hnm1 : n_1 ≤ maxLen := Nat.le_trans hnc1 hc1
  unfold maxLen at hnm1
  have Hl1 := Lib.hid hl1; clear hl1
  have HT1 := Lib.hid hT1; clear hT1
  have Hw1 := Lib.hid hw1; clear hw1
  clear hnc1 hc1
  by_cases z0 : 1048576 < (n_0 : Int)
  · go_enter Try.func3, Try.ntmps3
    go_wp2_with fail
    refine (Px.sz_any _ _ _ _ _ (by unfold maxLen; exact hnm0) (by omega) (by omega)).mono ?_
    rintro e v0 ⟨rfl, rfl⟩
    rw [if_pos (by omega)]
    go_wp2
    go_ret
    exact ⟨rfl, Below.refl _ _⟩
  by_cases z1 : 1048576 - (n_0 : Int) < (n_1 : Int)
  · go_enter Try.func3, Try.ntmps3
    go_wp2_with fail
    refine (Px.sz_any _ _ _ _ _ (by unfold maxLen; exact hnm0) (by omega) (by omega)).mono ?_
    rintro e v0 ⟨rfl, rfl⟩
    rw [if_neg (by omega)]
    go_wp2_with fail
    refine (Th.sz_any _ _ _ _ _ (by unfold maxLen; exact hnm1) (by omega) (by omega)).mono ?_
    rintro e v1 ⟨rfl, rfl⟩
    rw [if_pos (by omega)]
    go_wp2
    go_ret
    exact ⟨rfl, Below.refl _ _⟩
  have kb0 : n_0 ≤ 1048576 := by omega
  have kb1 : n_1 ≤ 1048576 := by omega
  go_enter Try.func3, Try.ntmps3
  go_wp2_with fail
  refine (Px.sz_any _ _ _ _ _ (by unfold maxLen; exact hnm0) (by omega) (by omega)).mono ?_
  rintro e v0 ⟨rfl, rfl⟩
  rw [if_neg (by omega)]
  go_wp2_with fail
  refine (Th.sz_any _ _ _ _ _ (by unfold maxLen; exact hnm1) (by omega) (by omega)).mono ?_
  rintro e v1 ⟨rfl, rfl⟩
  rw [if_neg (by omega)]
  go_wp2_with fail
  refine (Px.to_any A_0 n_0 c_0 p_0 _ Hl0.out kb0 HT0.out).mono ?_
  rintro e w1 ⟨rfl, m1⟩
  have M1 := Lib.hid m1; clear m1
  have B1 : Hid (Below w.heap.size w w1) := M1.out.2.2.2
  have f1 : w.heap.size < w1.heap.size := M1.out.2.2.1
  have D1 : Hid (Below w.heap.size w w1) := B1.out
  have s1 : w.heap.size ≤ w1.heap.size := B1.out.size
  go_wp2_with fail
  refine (Th.to_any A_1 n_1 c_1 p_1 _ Hl1.out kb1 (HT1.out.keep D1.out)).mono ?_
  rintro e w2 ⟨rfl, m2⟩
  have M2 := Lib.hid m2; clear m2
  have B2 : Hid (Below w1.heap.size w1 w2) := M2.out.2.2.2
  have f2 : w1.heap.size < w2.heap.size := M2.out.2.2.1
  have D2 : Hid (Below w.heap.size w w2) := b_then D1.out B2.out
  have s2 : w1.heap.size ≤ w2.heap.size := B2.out.size
  go_wp2_with fail
  refine (specPlaysOf_any _ _ _ _ _ _ p_0 p_1 _ Hl0.out Hl1.out kb0 kb1 (M1.out.l.keep B2.out) Hw0.out M2.out.l Hw1.out).mono ?_
  rintro e w3 ⟨A3, n3, c3, fs3, rfl, hl3, hc3, hf3, ho3, ha3, b3⟩
  have hb3 : n3 ≤ 8 := by
    have hx := congrArg List.length hc3
    rw [List.length_map, hl3] at hx
    rw [hx]
    exact playsT_le _ _
  have B3 := Lib.hid b3; have L3 := Lib.hid hl3; have C3 := Lib.hid hc3; have F3 := Lib.hid hf3.weak; have O3 := Lib.hid ho3; have Y3 := Lib.hid ha3
  clear b3 hl3 hc3 hf3 ho3 ha3
  have D3 : Hid (Below w.heap.size w w3) := b_then D2.out B3.out
  have s3 : w2.heap.size ≤ w3.heap.size := B3.out.size
  go_wp2_with fail
  refine (Px.to_any A_0 n_0 c_0 p_0 _ Hl0.out kb0 (HT0.out.keep D3.out)).mono ?_
  rintro e w4 ⟨rfl, m4⟩
  have M4 := Lib.hid m4; clear m4
  have B4 : Hid (Below w3.heap.size w3 w4) := M4.out.2.2.2
  have f4 : w3.heap.size < w4.heap.size := M4.out.2.2.1
  have D4 : Hid (Below w.heap.size w w4) := b_then D3.out B4.out
  have s4 : w3.heap.size ≤ w4.heap.size := B4.out.size
  go_wp2_with fail
  refine (Th.to_any A_1 n_1 c_1 p_1 _ Hl1.out kb1 (HT1.out.keep D4.out)).mono ?_
  rintro e w5 ⟨rfl, m5⟩
  have M5 := Lib.hid m5; clear m5
  have B5 : Hid (Below w4.heap.size w4 w5) := M5.out.2.2.2
  have f5 : w4.heap.size < w5.heap.size := M5.out.2.2.1
  have D5 : Hid (Below w.heap.size w w5) := b_then D4.out B5.out
  have s5 : w4.heap.size ≤ w5.heap.size := B5.out.size
  go_wp2_with fail
  refine (implPlaysOf_any _ _ _ _ _ _ p_0 p_1 _ Hl0.out Hl1.out kb0 kb1 (M4.out.l.keep B5.out) Hw0.out M5.out.l Hw1.out).mono ?_
  rintro e w6 ⟨A6, n6, c6, fs6, rfl, hl6, hc6, hf6, ho6, ha6, b6⟩
  have hb6 : n6 ≤ 8 := by
    have hx := congrArg List.length hc6
    rw [List.length_map, hl6] at hx
    rw [hx]
    exact playsT_le _ _
  have B6 := Lib.hid b6; have L6 := Lib.hid hl6; have C6 := Lib.hid hc6; have F6 := Lib.hid hf6.weak; have O6 := Lib.hid ho6; have Y6 := Lib.hid ha6
  clear b6 hl6 hc6 hf6 ho6 ha6
  have D6 : Hid (Below w.heap.size w w6) := b_then D5.out B6.out
  have s6 : w5.heap.size ≤ w6.heap.size := B6.out.size
  have E6 : Hid (fs6.map cn = fs3.map cn) := C6.out.trans C3.out.symm
  obtain rfl : n6 = n3 := by
    have h1 := congrArg List.length E6.out
    rw [List.length_map, List.length_map, L6.out, L3.out] at h1
    exact h1
  go_wp2_with fail
  refine (eqFloats_same _ _ _ _ _ fs6 fs3 _ L6.out E6.out (Nat.le_trans hb6 (by decide : 8 ≤ 1048576)) F6.out (((F3.out.keep B4.out).keep B5.out).keep B6.out)).mono ?_
  rintro e w7 ⟨rfl, b7⟩
  have B7 := Lib.hid b7; clear b7
  have D7 : Hid (Below w.heap.size w w7) := b_then D6.out B7.out
  have s7 : w6.heap.size ≤ w7.heap.size := B7.out.size
  go_wp2_with fail
  refine (Px.to_any A_0 n_0 c_0 p_0 _ Hl0.out kb0 (HT0.out.keep D7.out)).mono ?_
  rintro e w8 ⟨rfl, m8⟩
  have M8 := Lib.hid m8; clear m8
  have B8 : Hid (Below w7.heap.size w7 w8) := M8.out.2.2.2
  have f8 : w7.heap.size < w8.heap.size := M8.out.2.2.1
  have D8 : Hid (Below w.heap.size w w8) := b_then D7.out B8.out
  have s8 : w7.heap.size ≤ w8.heap.size := B8.out.size
  go_wp2_with fail
  refine (Px.eq_any _ _ _ _ _ p_0 p_0 _ Hl0.out rfl kb0 ((((M4.out.l.keep B5.out).keep B6.out).keep B7.out).keep B8.out) M8.out.l).mono ?_
  rintro e w9 ⟨rfl, b9⟩
  have B9 := Lib.hid b9; clear b9
  have D9 : Hid (Below w.heap.size w w9) := b_then D8.out B9.out
  have s9 : w8.heap.size ≤ w9.heap.size := B9.out.size
  go_wp2_with fail
  refine (Th.to_any A_1 n_1 c_1 p_1 _ Hl1.out kb1 (HT1.out.keep D9.out)).mono ?_
  rintro e w10 ⟨rfl, m10⟩
  have M10 := Lib.hid m10; clear m10
  have B10 : Hid (Below w9.heap.size w9 w10) := M10.out.2.2.2
  have f10 : w9.heap.size < w10.heap.size := M10.out.2.2.1
  have D10 : Hid (Below w.heap.size w w10) := b_then D9.out B10.out
  have s10 : w9.heap.size ≤ w10.heap.size := B10.out.size
  go_wp2_with fail
  refine (Th.eq_any _ _ _ _ _ p_1 p_1 _ Hl1.out rfl kb1 (((((M5.out.l.keep B6.out).keep B7.out).keep B8.out).keep B9.out).keep B10.out) M10.out.l).mono ?_
  rintro e w11 ⟨rfl, b11⟩
  have B11 := Lib.hid b11; clear b11
  have D11 : Hid (Below w.heap.size w w11) := b_then D10.out B11.out
  have s11 : w10.heap.size ≤ w11.heap.size := B11.out.size
  go_wp2_with fail
  refine (Px.mark_any _ _ _ _ _ kb0 (by omega) (by omega) (there_of_block (there_of_block (there_of_block (there_of_block (there_of_block (there_of_block (there_of_block M4.out.1 (B5.out.block _ (by omega))) (B6.out.block _ (by omega))) (B7.out.block _ (by omega))) (B8.out.block _ (by omega))) (B9.out.block _ (by omega))) (B10.out.block _ (by omega))) (B11.out.block _ (by omega)))).mono ?_
  rintro e w12 ⟨rfl, b12⟩
  have B12 := Lib.hid b12; clear b12
  have S12 := Lib.hid B12.out.1
  have s12 : w11.heap.size ≤ w12.heap.size := by rw [S12.out]; exact Nat.le_refl _
  have t12 : w12.heap.size ≤ w11.heap.size := by rw [S12.out]; exact Nat.le_refl _
  have D12 : Hid (Below w.heap.size w w12) := D11.out.trans (B12.out.2.2 _ (fun a h => by cases h; show w.heap.size ≤ w3.heap.size; omega))
  go_wp2_with fail
  refine (Th.mark_any _ _ _ _ _ kb1 (by omega) (by omega) (there_of_block (there_of_block (there_of_block (there_of_block (there_of_block (there_of_block (there_of_block M5.out.1 (B6.out.block _ (by omega))) (B7.out.block _ (by omega))) (B8.out.block _ (by omega))) (B9.out.block _ (by omega))) (B10.out.block _ (by omega))) (B11.out.block _ (by omega))) (B12.out.2.1 _ (fun a h => by cases h; show w3.heap.size ≠ _; omega)))).mono ?_
  rintro e w13 ⟨rfl, b13⟩
  have B13 := Lib.hid b13; clear b13
  have S13 := Lib.hid B13.out.1
  have s13 : w12.heap.size ≤ w13.heap.size := by rw [S13.out]; exact Nat.le_refl _
  have t13 : w13.heap.size ≤ w12.heap.size := by rw [S13.out]; exact Nat.le_refl _
  have D13 : Hid (Below w.heap.size w w13) := D12.out.trans (B13.out.2.2 _ (fun a h => by cases h; show w.heap.size ≤ w4.heap.size; omega))
  go_wp2_with fail
  refine (eqFloats_same _ _ _ _ _ fs6 fs3 _ L6.out E6.out (Nat.le_trans hb6 (by decide : 8 ≤ 1048576)) (((((((F6.out.keep B7.out).keep B8.out).keep B9.out).keep B10.out).keep B11.out).mb0 B12.out (fun a a' ha ha' => by cases ha'; have := (Y6.out a ha).1; have := (Y6.out a ha).2; show w3.heap.size ≠ a.block; omega)).mb0 B13.out (fun a a' ha ha' => by cases ha'; have := (Y6.out a ha).1; have := (Y6.out a ha).2; show w4.heap.size ≠ a.block; omega)) ((((((((((F3.out.keep B4.out).keep B5.out).keep B6.out).keep B7.out).keep B8.out).keep B9.out).keep B10.out).keep B11.out).mb0 B12.out (fun a a' ha ha' => by cases ha'; have := (Y3.out a ha).1; have := (Y3.out a ha).2; show w3.heap.size ≠ a.block; omega)).mb0 B13.out (fun a a' ha ha' => by cases ha'; have := (Y3.out a ha).1; have := (Y3.out a ha).2; show w4.heap.size ≠ a.block; omega))).mono ?_
  rintro e w14 ⟨rfl, b14⟩
  have B14 := Lib.hid b14; clear b14
  have D14 : Hid (Below w.heap.size w w14) := b_then D13.out B14.out
  have s14 : w13.heap.size ≤ w14.heap.size := B14.out.size
  have Z15 : Hid (0 < n6 → ∃ b, A6 = some ⟨b, 0, none⟩ ∧ w14.there b 0 n6) := fun h0 => by
    obtain ⟨b, he, ht⟩ := O6.out h0
    have hy1 : w5.heap.size ≤ b := (Y6.out _ he).1
    have hy2 : b < w6.heap.size := (Y6.out _ he).2
    exact ⟨b, he, (there_of_block (there_of_block (there_of_block (there_of_block (there_of_block (there_of_block (there_of_block (there_of_block ht (B7.out.block _ (by omega))) (B8.out.block _ (by omega))) (B9.out.block _ (by omega))) (B10.out.block _ (by omega))) (B11.out.block _ (by omega))) (B12.out.2.1 _ (fun a h => by cases h; show w3.heap.size ≠ _; omega))) (B13.out.2.1 _ (fun a h => by cases h; show w4.heap.size ≠ _; omega))) (B14.out.block _ (by omega)))⟩
  go_wp2_with fail
  refine (markFloats_any A6 _ _ 1 _ (Nat.le_trans hb6 (by decide : 8 ≤ 1048576)) (by omega) Z15.out).mono ?_
  rintro e w15 ⟨rfl, b15, mk15⟩
  have B15 := Lib.hid b15; have K15 := Lib.hid mk15; clear b15 mk15
  have S15 := Lib.hid B15.out.1
  have s15 : w14.heap.size ≤ w15.heap.size := by rw [S15.out]; exact Nat.le_refl _
  have t15 : w15.heap.size ≤ w14.heap.size := by rw [S15.out]; exact Nat.le_refl _
  have D15 : Hid (Below w.heap.size w w15) := D14.out.trans (B15.out.2.2 _ (fun a h => by have := (Y6.out a h).1; omega))
  go_wp2_with fail
  refine (heldFloats_any A6 _ _ 1 _ (Nat.le_trans hb6 (by decide : 8 ≤ 1048576)) (by omega) K15.out).mono ?_
  rintro e wx ⟨rfl, rfl⟩
  go_wp2_with fail
  refine (Px.to_any A_0 n_0 c_0 p_0 _ Hl0.out kb0 (HT0.out.keep D15.out)).mono ?_
  rintro e w16 ⟨rfl, m16⟩
  have M16 := Lib.hid m16; clear m16
  have B16 : Hid (Below w15.heap.size w15 w16) := M16.out.2.2.2
  have f16 : w15.heap.size < w16.heap.size := M16.out.2.2.1
  have D16 : Hid (Below w.heap.size w w16) := b_then D15.out B16.out
  have s16 : w15.heap.size ≤ w16.heap.size := B16.out.size
  go_wp2_with fail
  refine (Th.to_any A_1 n_1 c_1 p_1 _ Hl1.out kb1 (HT1.out.keep D16.out)).mono ?_
  rintro e w17 ⟨rfl, m17⟩
  have M17 := Lib.hid m17; clear m17
  have B17 : Hid (Below w16.heap.size w16 w17) := M17.out.2.2.2
  have f17 : w16.heap.size < w17.heap.size := M17.out.2.2.1
  have D17 : Hid (Below w.heap.size w w17) := b_then D16.out B17.out
  have s17 : w16.heap.size ≤ w17.heap.size := B17.out.size
  go_wp2_with fail
  refine (implPlaysOf_any _ _ _ _ _ _ p_0 p_1 _ Hl0.out Hl1.out kb0 kb1 (M16.out.l.keep B17.out) Hw0.out M17.out.l Hw1.out).mono ?_
  rintro e w18 ⟨A18, n18, c18, fs18, rfl, hl18, hc18, hf18, ho18, ha18, b18⟩
  have hb18 : n18 ≤ 8 := by
    have hx := congrArg List.length hc18
    rw [List.length_map, hl18] at hx
    rw [hx]
    exact playsT_le _ _
  have B18 := Lib.hid b18; have L18 := Lib.hid hl18; have C18 := Lib.hid hc18; have F18 := Lib.hid hf18.weak; have O18 := Lib.hid ho18; have Y18 := Lib.hid ha18
  clear b18 hl18 hc18 hf18 ho18 ha18
  have D18 : Hid (Below w.heap.size w w18) := b_then D17.out B18.out
  have s18 : w17.heap.size ≤ w18.heap.size := B18.out.size
  have E18 : Hid (fs18.map cn = fs3.map cn) := C18.out.trans C3.out.symm
  obtain rfl : n18 = n6 := by
    have h1 := congrArg List.length E18.out
    rw [List.length_map, List.length_map, L18.out, L3.out] at h1
    exact h1
  go_wp2_with fail
  refine (eqFloats_same _ _ _ _ _ fs18 fs3 _ L18.out E18.out (Nat.le_trans hb18 (by decide : 8 ≤ 1048576)) F18.out (((((((((((((((F3.out.keep B4.out).keep B5.out).keep B6.out).keep B7.out).keep B8.out).keep B9.out).keep B10.out).keep B11.out).mb0 B12.out (fun a a' ha ha' => by cases ha'; have := (Y3.out a ha).1; have := (Y3.out a ha).2; show w3.heap.size ≠ a.block; omega)).mb0 B13.out (fun a a' ha ha' => by cases ha'; have := (Y3.out a ha).1; have := (Y3.out a ha).2; show w4.heap.size ≠ a.block; omega)).keep B14.out).mb0 B15.out (fun a a' ha ha' => by have := (Y6.out a' ha').1; have := (Y6.out a' ha').2; have := (Y3.out a ha).1; have := (Y3.out a ha).2; omega)).keep B16.out).keep B17.out).keep B18.out)).mono ?_
  rintro e w19 ⟨rfl, b19⟩
  have B19 := Lib.hid b19; clear b19
  have D19 : Hid (Below w.heap.size w w19) := b_then D18.out B19.out
  have s19 : w18.heap.size ≤ w19.heap.size := B19.out.size
  have KK : Hid (0 < n18 → ∃ b, A6 = some ⟨b, 0, none⟩ ∧ ∀ i : Nat, i < n18 → w19.cell? ⟨b, i, none⟩ = some (.float .f32 (floatOfInt .f32 (1 + i)))) := fun h0 => by
    obtain ⟨b, he, hcs⟩ := K15.out h0
    have hy2 : b < w6.heap.size := (Y6.out _ he).2
    exact ⟨b, he, fun i hi => (World.cell?_of_block (a := ⟨b, i, none⟩) (B19.out.block b (by omega))).trans ((World.cell?_of_block (a := ⟨b, i, none⟩) (B18.out.block b (by omega))).trans ((World.cell?_of_block (a := ⟨b, i, none⟩) (B17.out.block b (by omega))).trans ((World.cell?_of_block (a := ⟨b, i, none⟩) (B16.out.block b (by omega))).trans (hcs i hi))))⟩
  go_wp2_with fail
  refine (heldFloats_any A6 _ _ 1 _ (Nat.le_trans hb18 (by decide : 8 ≤ 1048576)) (by omega) KK.out).mono ?_
  rintro e wx ⟨rfl, rfl⟩
  go_wp2
  go_ret
  exact ⟨rfl, D19.out⟩
end Go.Proofs.Ytndmkfmfphgckab
