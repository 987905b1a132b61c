/-
  The laws whose answer is a train.
-/
import Derived.Test.YtolbacgfcobmdaaWith
import Derived.Test.YtolbacgfcobmdaaBack
namespace Go.Proofs.Ytolbacgfcobmdaa
open Go.RowKit Go.ChangeShapes Go.WideShapes Go.Deep
attribute [local go_sem ↓] Go.wp_at_zero Go.wp_at_succ
set_option linter.unusedVariables false
set_option linter.unusedSimpArgs false
theorem szTrain_left (A : Option Addr) (n c : Nat) (L : Int) (w : World) (hn : n ≤ maxLen) (h0 : 0 ≤ L) (h1 : L ≤ 1048576) :
    Calls Try.prog 9 #[.slice A n c, .int .i64 L] w fun e w' => e = .returned (.int .i64 (if L < n then -1 else L - n)) ∧ w = w' := by
  unfold maxLen at hn
  by_cases h : L < n
  · rw [if_pos h]
    go_enter Try.func9, Try.ntmps9
    go_wp2
    go_ret
    exact ⟨rfl, rfl⟩
  · rw [if_neg h]
    go_enter Try.func9, Try.ntmps9
    go_wp2
    go_ret
    exact ⟨rfl, rfl⟩
set_option maxRecDepth 100000 in
theorem markTrainK_any (b : Nat) (n c : Nat) (k0 : Int) (w : World) (hn : n ≤ 1048576) (h0 : 0 ≤ k0) (h1 : k0 ≤ 4000000) (ht : w.there b 0 (n * 3)) :
    Calls Try.prog 17 #[.slice (some ⟨b, 0, none⟩) n c, .int .i64 k0] w fun e w' => e = .returned (.int .i64 (k0 + 3 * n)) ∧ MB (some ⟨b, 0, none⟩) w w' := by
  have Ht0 := Lib.hid ht; clear ht
  go_enter Try.func17, Try.ntmps17
  go_wp2
  go_loopw [1, 5] (fun q i wr => ∃ k : Nat, k ≤ n ∧ q = .int .i64 (k0 + 3 * k) ∧ i = .int .i64 k ∧ MB (some ⟨b, 0, none⟩) w wr ∧ wr.there b 0 (n * 3)) (fun _ i _ => n - (intOf i).toNat)
  case atStart => exact ⟨0, Nat.zero_le _, by simp, rfl, MB.refl _ _, Ht0.out⟩
  case round =>
    obtain ⟨k, hkn, rfl, rfl, hm, hth2⟩ := hrel
    have Hm := Lib.hid hm; clear hm
    have Ht := Lib.hid hth2; clear hth2
    by_cases hlt : k < n
    · obtain ⟨e0, z0⟩ := Ht.out (k * 3) (by omega)
      obtain ⟨e1, z1⟩ := Ht.out (k * 3 + 1) (by omega)
      obtain ⟨e2, z2⟩ := Ht.out (k * 3 + 2) (by omega)
      rw [Nat.zero_add] at e0 z0 e1 z1 e2 z2
      obtain ⟨v0, c0⟩ := Option.isSome_iff_exists.1 e0
      obtain ⟨v1, c1⟩ := Option.isSome_iff_exists.1 e1
      obtain ⟨v2, c2⟩ := Option.isSome_iff_exists.1 e2
      clear e0 e1 e2
      go_wp2
      clear c0 c1 c2 z0 z1 z2
      go_roundw
      case rel => exact ⟨k + 1, by omega, by go_num, by go_num, ((Hm.out.set (k * 3) [_]).set (k * 3 + 1) [_]).set (k * 3 + 2) [_], World.there_setCells (World.there_setCells (World.there_setCells Ht.out b (k * 3) [_]) b (k * 3 + 1) [_]) b (k * 3 + 2) [_]⟩
      case measure => simp [intOf]; omega
    · have hkn' : k = n := by omega
      subst hkn'
      go_wp2
      go_ret
      exact ⟨rfl, Hm.out⟩
set_option maxRecDepth 100000 in
set_option maxHeartbeats 2000000 in
theorem walk_FnExactWithLoss (A : Option Addr) (n c : Nat) (ps : List Pr) (j : Int) (_ : (Lit.int .i64 j).wf = true) (l : Nat) (_ : (Lit.float .f32 l).wf = true) (w : World) (h : PairsIn w A n c ps) :
    Calls Try.prog 4 #[.slice A n c, .int .i64 j, .float .f32 l] w fun e w' => e = .returned (.bool true) ∧ Below w.heap.size w w' := by
  obtain ⟨hl, hnc, hc, hT, hw⟩ := h
  have hnm : n ≤ maxLen := Nat.le_trans hnc hc
  have Hl := Lib.hid hl; clear hl
  have HT := Lib.hid hT; clear hT
  have Hw := Lib.hid hw; clear hw
  clear hc
  by_cases hn : 1048576 < n
  · go_enter Try.func4, Try.ntmps4
    go_wp2_with (go_at_call 9; refine (szTrain_any _ _ _ _ hnm).mono ?_; rintro e w1 ⟨rfl, rfl⟩; rw [if_pos hn])
    go_ret
    exact ⟨rfl, Below.refl _ _⟩
  have k1 : n ≤ 1048576 := by omega
  go_enter Try.func4, Try.ntmps4
  go_wp2_with fail
  refine (szTrain_any _ _ _ _ hnm).mono ?_
  rintro e w1 ⟨rfl, rfl⟩
  rw [if_neg hn]
  go_wp2_with fail
  refine (toTrain_any A n c ps _ Hl.out k1 (HT.out)).mono ?_
  rintro e w1 ⟨rfl, m1⟩
  have M1 := Lib.hid m1; clear m1
  have B1 : Hid (Below w.heap.size w w1) := M1.out.below
  have f1 : w.heap.size < w1.heap.size := M1.out.2.2.1
  have D1 : Hid (Below w.heap.size w w1) := B1.out
  have s1 : w.heap.size ≤ w1.heap.size := B1.out.size
  go_wp2_with fail
  refine (specWith_any _ _ _ ps j l _ Hl.out k1 M1.out.tr Hw.out).mono ?_
  rintro e w2 ⟨A2, n2, c2, rfl, hl2, ht2, ho2, ha2, b2⟩
  have B2 := Lib.hid b2; have L2 := Lib.hid hl2; have T2 := Lib.hid ht2; have O2 := Lib.hid ho2; have Y2 := Lib.hid ha2
  have hb2 : n2 ≤ 8 := by rw [← hl2]; exact withT_le _ _ _
  clear b2 hl2 ht2 ho2 ha2
  have D2 : Hid (Below w.heap.size w w2) := bthen D1.out B2.out
  have s2 : w1.heap.size ≤ w2.heap.size := B2.out.size
  go_wp2_with fail
  refine (toTrain_any A n c ps _ Hl.out k1 (HT.out.keep D2.out)).mono ?_
  rintro e w3 ⟨rfl, m3⟩
  have M3 := Lib.hid m3; clear m3
  have B3 : Hid (Below w2.heap.size w2 w3) := M3.out.below
  have f3 : w2.heap.size < w3.heap.size := M3.out.2.2.1
  have D3 : Hid (Below w.heap.size w w3) := bthen D2.out B3.out
  have s3 : w2.heap.size ≤ w3.heap.size := B3.out.size
  go_wp2_with fail
  refine (implWith_any _ _ _ ps j l _ Hl.out k1 (Nat.le_refl _) hnm M3.out.tr Hw.out).mono ?_
  rintro e w4 ⟨A4, n4, c4, rfl, hl4, ht4, ho4, ha4, b4⟩
  have B4 := Lib.hid b4; have L4 := Lib.hid hl4; have T4 := Lib.hid ht4; have O4 := Lib.hid ho4; have Y4 := Lib.hid ha4
  have hb4 : n4 ≤ 8 := by rw [← hl4]; exact withT_le _ _ _
  clear b4 hl4 ht4 ho4 ha4
  have D4 : Hid (Below w.heap.size w w4) := bthen D3.out B4.out
  have s4 : w3.heap.size ≤ w4.heap.size := B4.out.size
  obtain rfl : n4 = n2 := by have h1 := L2.out; have h2 := L4.out; rw [h1] at h2; exact h2.symm
  go_wp2_with fail
  refine (eqTrain_same _ _ _ _ _ (withT ps j l) _ L4.out (Nat.le_trans hb4 (by decide : 8 ≤ 1048576)) T4.out ((T2.out.keep B3.out).keep B4.out)).mono ?_
  rintro e w5 ⟨rfl, b5⟩
  have B5 := Lib.hid b5; clear b5
  have D5 : Hid (Below w.heap.size w w5) := bthen D4.out B5.out
  have s5 : w4.heap.size ≤ w5.heap.size := B5.out.size
  go_wp2_with fail
  refine (toTrain_any A n c ps _ Hl.out k1 (HT.out.keep D5.out)).mono ?_
  rintro e w6 ⟨rfl, m6⟩
  have M6 := Lib.hid m6; clear m6
  have B6 : Hid (Below w5.heap.size w5 w6) := M6.out.below
  have f6 : w5.heap.size < w6.heap.size := M6.out.2.2.1
  have D6 : Hid (Below w.heap.size w w6) := bthen D5.out B6.out
  have s6 : w5.heap.size ≤ w6.heap.size := B6.out.size
  go_wp2_with fail
  refine (eqTrain_same _ _ _ _ _ (ps) _ Hl.out k1 (((M3.out.tr.keep B4.out).keep B5.out).keep B6.out) M6.out.tr).mono ?_
  rintro e w7 ⟨rfl, b7⟩
  have B7 := Lib.hid b7; clear b7
  have D7 : Hid (Below w.heap.size w w7) := bthen D6.out B7.out
  have s7 : w6.heap.size ≤ w7.heap.size := B7.out.size
  go_wp2_with fail
  have Z8 : Hid (w7.there w2.heap.size 0 (n * 3)) := (there_of_block (there_of_block (there_of_block (there_of_block M3.out.1 (B4.out.block _ (by omega))) (B5.out.block _ (by omega))) (B6.out.block _ (by omega))) (B7.out.block _ (by omega)))
  refine (markTrain_any _ _ _ _ k1 Z8.out).mono ?_
  rintro e w8 ⟨rfl, b8⟩
  have B8 := Lib.hid b8; clear b8
  have s8 : w7.heap.size = w8.heap.size := B8.out.1.symm
  have S8 := Lib.hid s8; clear s8
  have s8 : w7.heap.size ≤ w8.heap.size := by rw [S8.out]; exact Nat.le_refl _
  have t8 : w8.heap.size ≤ w7.heap.size := by rw [S8.out]; exact Nat.le_refl _
  have D8 : Hid (Below w.heap.size w w8) := D7.out.trans (B8.out.2.2 _ (fun a h => by cases h; show w.heap.size ≤ w2.heap.size; omega))
  go_wp2_with fail
  refine (eqTrain_same _ _ _ _ _ (withT ps j l) _ L4.out (Nat.le_trans hb4 (by decide : 8 ≤ 1048576)) ((((T4.out.keep B5.out).keep B6.out).keep B7.out).mb B8.out (fun a a' ha ha' => by cases ha'; have := (Y4.out a ha).1; have := (Y4.out a ha).2; show w2.heap.size ≠ a.block; omega)) ((((((T2.out.keep B3.out).keep B4.out).keep B5.out).keep B6.out).keep B7.out).mb B8.out (fun a a' ha ha' => by cases ha'; have := (Y2.out a ha).1; have := (Y2.out a ha).2; show w2.heap.size ≠ a.block; omega))).mono ?_
  rintro e w9 ⟨rfl, b9⟩
  have B9 := Lib.hid b9; clear b9
  have D9 : Hid (Below w.heap.size w w9) := bthen D8.out B9.out
  have s9 : w8.heap.size ≤ w9.heap.size := B9.out.size
  have Z10 : Hid (0 < n4 → ∃ b, A4 = some ⟨b, 0, none⟩ ∧ b < w9.heap.size ∧ w9.there b 0 (n4 * 3)) := fun h0 => by
    obtain ⟨b, he, ht⟩ := O4.out h0
    have hy1 := (Y4.out _ he).1; have hy2 := (Y4.out _ he).2
    have hy1 : w3.heap.size ≤ b := hy1
    have hy2 : b < w4.heap.size := hy2
    exact ⟨b, he, by omega, (there_of_block (there_of_block (there_of_block (there_of_block (there_of_block ht (B5.out.block _ (by omega))) (B6.out.block _ (by omega))) (B7.out.block _ (by omega))) (B8.out.2.1 _ (fun a h => by cases h; show w2.heap.size ≠ _; omega))) (B9.out.block _ (by omega)))⟩
  go_wp2_with fail
  refine (markTrR_any A4 _ _ _ hb4 Z10.out).mono ?_
  rintro e w10 ⟨rfl, b10, mk10⟩
  have B10 := Lib.hid b10; have K10 := Lib.hid mk10; clear b10 mk10
  have S10 := Lib.hid B10.out.1
  have s10 : w9.heap.size ≤ w10.heap.size := by rw [S10.out]; exact Nat.le_refl _
  have t10 : w10.heap.size ≤ w9.heap.size := by rw [S10.out]; exact Nat.le_refl _
  have D10 : Hid (Below w.heap.size w w10) := D9.out.trans (B10.out.2.2 _ (fun a h => by have := (Y4.out a h).1; omega))
  go_wp2_with fail
  refine (heldTrR_any A4 _ _ _ hb4 K10.out).mono ?_
  rintro e w11 ⟨rfl, b11⟩
  have B11 := Lib.hid b11; clear b11
  have D11 : Hid (Below w.heap.size w w11) := bthen D10.out B11.out
  have s11 : w10.heap.size ≤ w11.heap.size := B11.out.size
  go_wp2_with fail
  refine (toTrain_any A n c ps _ Hl.out k1 (HT.out.keep D11.out)).mono ?_
  rintro e w12 ⟨rfl, m12⟩
  have M12 := Lib.hid m12; clear m12
  have B12 : Hid (Below w11.heap.size w11 w12) := M12.out.below
  have f12 : w11.heap.size < w12.heap.size := M12.out.2.2.1
  have D12 : Hid (Below w.heap.size w w12) := bthen D11.out B12.out
  have s12 : w11.heap.size ≤ w12.heap.size := B12.out.size
  go_wp2_with fail
  refine (implWith_any _ _ _ ps j l _ Hl.out k1 (Nat.le_refl _) hnm M12.out.tr Hw.out).mono ?_
  rintro e w13 ⟨A13, n13, c13, rfl, hl13, ht13, ho13, ha13, b13⟩
  have B13 := Lib.hid b13; have L13 := Lib.hid hl13; have T13 := Lib.hid ht13; have O13 := Lib.hid ho13; have Y13 := Lib.hid ha13
  have hb13 : n13 ≤ 8 := by rw [← hl13]; exact withT_le _ _ _
  clear b13 hl13 ht13 ho13 ha13
  have D13 : Hid (Below w.heap.size w w13) := bthen D12.out B13.out
  have s13 : w12.heap.size ≤ w13.heap.size := B13.out.size
  obtain rfl : n13 = n4 := by have h1 := L4.out; have h2 := L13.out; rw [h1] at h2; exact h2.symm
  go_wp2_with fail
  refine (eqTrain_same _ _ _ _ _ (withT ps j l) _ L13.out (Nat.le_trans hb13 (by decide : 8 ≤ 1048576)) T13.out (((((((((((T2.out.keep B3.out).keep B4.out).keep B5.out).keep B6.out).keep B7.out).mb B8.out (fun a a' ha ha' => by cases ha'; have := (Y2.out a ha).1; have := (Y2.out a ha).2; show w2.heap.size ≠ a.block; omega)).keep B9.out).mb B10.out (fun a a' ha ha' => by have := (Y4.out a' ha').1; have := (Y4.out a' ha').2; have := (Y2.out a ha).1; have := (Y2.out a ha).2; omega)).keep B11.out).keep B12.out).keep B13.out)).mono ?_
  rintro e w14 ⟨rfl, b14⟩
  have B14 := Lib.hid b14; clear b14
  have D14 : Hid (Below w.heap.size w w14) := bthen D13.out B14.out
  have s14 : w13.heap.size ≤ w14.heap.size := B14.out.size
  go_wp2_with fail
  refine (heldTrR_any A4 _ _ _ hb13 ((((K10.out.keep B11.out).keep B12.out).keep B13.out).keep B14.out)).mono ?_
  rintro e w15 ⟨rfl, b15⟩
  have B15 := Lib.hid b15; clear b15
  have D15 : Hid (Below w.heap.size w w15) := bthen D14.out B15.out
  have s15 : w14.heap.size ≤ w15.heap.size := B15.out.size
  go_wp2
  go_ret
  exact ⟨rfl, D15.out⟩
set_option maxRecDepth 100000 in
set_option maxHeartbeats 2000000 in
theorem walk_FnExactBackTrain (A : Option Addr) (n c : Nat) (ps : List Pr) (w : World) (h : PairsIn w A n c ps) :
    Calls Try.prog 5 #[.slice A n c] w fun e w' => e = .returned (.bool true) ∧ Below w.heap.size w w' := by
  obtain ⟨hl, hnc, hc, hT, hw⟩ := h
  have hnm : n ≤ maxLen := Nat.le_trans hnc hc
  have Hl := Lib.hid hl; clear hl
  have HT := Lib.hid hT; clear hT
  have Hw := Lib.hid hw; clear hw
  clear hc
  by_cases hn : 1048576 < n
  · go_enter Try.func5, Try.ntmps5
    go_wp2_with (go_at_call 9; refine (szTrain_any _ _ _ _ hnm).mono ?_; rintro e w1 ⟨rfl, rfl⟩; rw [if_pos hn])
    go_ret
    exact ⟨rfl, Below.refl _ _⟩
  have k1 : n ≤ 1048576 := by omega
  go_enter Try.func5, Try.ntmps5
  go_wp2_with fail
  refine (szTrain_any _ _ _ _ hnm).mono ?_
  rintro e w1 ⟨rfl, rfl⟩
  rw [if_neg hn]
  go_wp2_with fail
  refine (toTrain_any A n c ps _ Hl.out k1 (HT.out)).mono ?_
  rintro e w1 ⟨rfl, m1⟩
  have M1 := Lib.hid m1; clear m1
  have B1 : Hid (Below w.heap.size w w1) := M1.out.below
  have f1 : w.heap.size < w1.heap.size := M1.out.2.2.1
  have D1 : Hid (Below w.heap.size w w1) := B1.out
  have s1 : w.heap.size ≤ w1.heap.size := B1.out.size
  go_wp2_with fail
  refine (specBack_any _ _ _ ps _ Hl.out k1 M1.out.tr Hw.out).mono ?_
  rintro e w2 ⟨A2, n2, c2, rfl, hl2, ht2, ho2, ha2, b2⟩
  have B2 := Lib.hid b2; have L2 := Lib.hid hl2; have T2 := Lib.hid ht2; have O2 := Lib.hid ho2; have Y2 := Lib.hid ha2
  have hb2 : n2 ≤ 8 := by rw [← hl2]; exact backT_le _
  clear b2 hl2 ht2 ho2 ha2
  have D2 : Hid (Below w.heap.size w w2) := bthen D1.out B2.out
  have s2 : w1.heap.size ≤ w2.heap.size := B2.out.size
  go_wp2_with fail
  refine (toTrain_any A n c ps _ Hl.out k1 (HT.out.keep D2.out)).mono ?_
  rintro e w3 ⟨rfl, m3⟩
  have M3 := Lib.hid m3; clear m3
  have B3 : Hid (Below w2.heap.size w2 w3) := M3.out.below
  have f3 : w2.heap.size < w3.heap.size := M3.out.2.2.1
  have D3 : Hid (Below w.heap.size w w3) := bthen D2.out B3.out
  have s3 : w2.heap.size ≤ w3.heap.size := B3.out.size
  go_wp2_with fail
  refine (implBack_any _ _ _ ps _ Hl.out k1 M3.out.tr Hw.out).mono ?_
  rintro e w4 ⟨A4, n4, c4, rfl, hl4, ht4, ho4, ha4, b4⟩
  have B4 := Lib.hid b4; have L4 := Lib.hid hl4; have T4 := Lib.hid ht4; have O4 := Lib.hid ho4; have Y4 := Lib.hid ha4
  have hb4 : n4 ≤ 8 := by rw [← hl4]; exact backT_le _
  clear b4 hl4 ht4 ho4 ha4
  have D4 : Hid (Below w.heap.size w w4) := bthen D3.out B4.out
  have s4 : w3.heap.size ≤ w4.heap.size := B4.out.size
  obtain rfl : n4 = n2 := by have h1 := L2.out; have h2 := L4.out; rw [h1] at h2; exact h2.symm
  go_wp2_with fail
  refine (eqTrain_same _ _ _ _ _ (backT ps) _ L4.out (Nat.le_trans hb4 (by decide : 8 ≤ 1048576)) T4.out ((T2.out.keep B3.out).keep B4.out)).mono ?_
  rintro e w5 ⟨rfl, b5⟩
  have B5 := Lib.hid b5; clear b5
  have D5 : Hid (Below w.heap.size w w5) := bthen D4.out B5.out
  have s5 : w4.heap.size ≤ w5.heap.size := B5.out.size
  go_wp2_with fail
  refine (toTrain_any A n c ps _ Hl.out k1 (HT.out.keep D5.out)).mono ?_
  rintro e w6 ⟨rfl, m6⟩
  have M6 := Lib.hid m6; clear m6
  have B6 : Hid (Below w5.heap.size w5 w6) := M6.out.below
  have f6 : w5.heap.size < w6.heap.size := M6.out.2.2.1
  have D6 : Hid (Below w.heap.size w w6) := bthen D5.out B6.out
  have s6 : w5.heap.size ≤ w6.heap.size := B6.out.size
  go_wp2_with fail
  refine (eqTrain_same _ _ _ _ _ (ps) _ Hl.out k1 (((M3.out.tr.keep B4.out).keep B5.out).keep B6.out) M6.out.tr).mono ?_
  rintro e w7 ⟨rfl, b7⟩
  have B7 := Lib.hid b7; clear b7
  have D7 : Hid (Below w.heap.size w w7) := bthen D6.out B7.out
  have s7 : w6.heap.size ≤ w7.heap.size := B7.out.size
  go_wp2_with fail
  have Z8 : Hid (w7.there w2.heap.size 0 (n * 3)) := (there_of_block (there_of_block (there_of_block (there_of_block M3.out.1 (B4.out.block _ (by omega))) (B5.out.block _ (by omega))) (B6.out.block _ (by omega))) (B7.out.block _ (by omega)))
  refine (markTrain_any _ _ _ _ k1 Z8.out).mono ?_
  rintro e w8 ⟨rfl, b8⟩
  have B8 := Lib.hid b8; clear b8
  have s8 : w7.heap.size = w8.heap.size := B8.out.1.symm
  have S8 := Lib.hid s8; clear s8
  have s8 : w7.heap.size ≤ w8.heap.size := by rw [S8.out]; exact Nat.le_refl _
  have t8 : w8.heap.size ≤ w7.heap.size := by rw [S8.out]; exact Nat.le_refl _
  have D8 : Hid (Below w.heap.size w w8) := D7.out.trans (B8.out.2.2 _ (fun a h => by cases h; show w.heap.size ≤ w2.heap.size; omega))
  go_wp2_with fail
  refine (eqTrain_same _ _ _ _ _ (backT ps) _ L4.out (Nat.le_trans hb4 (by decide : 8 ≤ 1048576)) ((((T4.out.keep B5.out).keep B6.out).keep B7.out).mb B8.out (fun a a' ha ha' => by cases ha'; have := (Y4.out a ha).1; have := (Y4.out a ha).2; show w2.heap.size ≠ a.block; omega)) ((((((T2.out.keep B3.out).keep B4.out).keep B5.out).keep B6.out).keep B7.out).mb B8.out (fun a a' ha ha' => by cases ha'; have := (Y2.out a ha).1; have := (Y2.out a ha).2; show w2.heap.size ≠ a.block; omega))).mono ?_
  rintro e w9 ⟨rfl, b9⟩
  have B9 := Lib.hid b9; clear b9
  have D9 : Hid (Below w.heap.size w w9) := bthen D8.out B9.out
  have s9 : w8.heap.size ≤ w9.heap.size := B9.out.size
  have Z10 : Hid (0 < n4 → ∃ b, A4 = some ⟨b, 0, none⟩ ∧ b < w9.heap.size ∧ w9.there b 0 (n4 * 3)) := fun h0 => by
    obtain ⟨b, he, ht⟩ := O4.out h0
    have hy1 := (Y4.out _ he).1; have hy2 := (Y4.out _ he).2
    have hy1 : w3.heap.size ≤ b := hy1
    have hy2 : b < w4.heap.size := hy2
    exact ⟨b, he, by omega, (there_of_block (there_of_block (there_of_block (there_of_block (there_of_block ht (B5.out.block _ (by omega))) (B6.out.block _ (by omega))) (B7.out.block _ (by omega))) (B8.out.2.1 _ (fun a h => by cases h; show w2.heap.size ≠ _; omega))) (B9.out.block _ (by omega)))⟩
  go_wp2_with fail
  refine (markTrR_any A4 _ _ _ hb4 Z10.out).mono ?_
  rintro e w10 ⟨rfl, b10, mk10⟩
  have B10 := Lib.hid b10; have K10 := Lib.hid mk10; clear b10 mk10
  have S10 := Lib.hid B10.out.1
  have s10 : w9.heap.size ≤ w10.heap.size := by rw [S10.out]; exact Nat.le_refl _
  have t10 : w10.heap.size ≤ w9.heap.size := by rw [S10.out]; exact Nat.le_refl _
  have D10 : Hid (Below w.heap.size w w10) := D9.out.trans (B10.out.2.2 _ (fun a h => by have := (Y4.out a h).1; omega))
  go_wp2_with fail
  refine (heldTrR_any A4 _ _ _ hb4 K10.out).mono ?_
  rintro e w11 ⟨rfl, b11⟩
  have B11 := Lib.hid b11; clear b11
  have D11 : Hid (Below w.heap.size w w11) := bthen D10.out B11.out
  have s11 : w10.heap.size ≤ w11.heap.size := B11.out.size
  go_wp2_with fail
  refine (toTrain_any A n c ps _ Hl.out k1 (HT.out.keep D11.out)).mono ?_
  rintro e w12 ⟨rfl, m12⟩
  have M12 := Lib.hid m12; clear m12
  have B12 : Hid (Below w11.heap.size w11 w12) := M12.out.below
  have f12 : w11.heap.size < w12.heap.size := M12.out.2.2.1
  have D12 : Hid (Below w.heap.size w w12) := bthen D11.out B12.out
  have s12 : w11.heap.size ≤ w12.heap.size := B12.out.size
  go_wp2_with fail
  refine (implBack_any _ _ _ ps _ Hl.out k1 M12.out.tr Hw.out).mono ?_
  rintro e w13 ⟨A13, n13, c13, rfl, hl13, ht13, ho13, ha13, b13⟩
  have B13 := Lib.hid b13; have L13 := Lib.hid hl13; have T13 := Lib.hid ht13; have O13 := Lib.hid ho13; have Y13 := Lib.hid ha13
  have hb13 : n13 ≤ 8 := by rw [← hl13]; exact backT_le _
  clear b13 hl13 ht13 ho13 ha13
  have D13 : Hid (Below w.heap.size w w13) := bthen D12.out B13.out
  have s13 : w12.heap.size ≤ w13.heap.size := B13.out.size
  obtain rfl : n13 = n4 := by have h1 := L4.out; have h2 := L13.out; rw [h1] at h2; exact h2.symm
  go_wp2_with fail
  refine (eqTrain_same _ _ _ _ _ (backT ps) _ L13.out (Nat.le_trans hb13 (by decide : 8 ≤ 1048576)) T13.out (((((((((((T2.out.keep B3.out).keep B4.out).keep B5.out).keep B6.out).keep B7.out).mb B8.out (fun a a' ha ha' => by cases ha'; have := (Y2.out a ha).1; have := (Y2.out a ha).2; show w2.heap.size ≠ a.block; omega)).keep B9.out).mb B10.out (fun a a' ha ha' => by have := (Y4.out a' ha').1; have := (Y4.out a' ha').2; have := (Y2.out a ha).1; have := (Y2.out a ha).2; omega)).keep B11.out).keep B12.out).keep B13.out)).mono ?_
  rintro e w14 ⟨rfl, b14⟩
  have B14 := Lib.hid b14; clear b14
  have D14 : Hid (Below w.heap.size w w14) := bthen D13.out B14.out
  have s14 : w13.heap.size ≤ w14.heap.size := B14.out.size
  go_wp2_with fail
  refine (heldTrR_any A4 _ _ _ hb13 ((((K10.out.keep B11.out).keep B12.out).keep B13.out).keep B14.out)).mono ?_
  rintro e w15 ⟨rfl, b15⟩
  have B15 := Lib.hid b15; clear b15
  have D15 : Hid (Below w.heap.size w w15) := bthen D14.out B15.out
  have s15 : w14.heap.size ≤ w15.heap.size := B15.out.size
  go_wp2
  go_ret
  exact ⟨rfl, D15.out⟩
set_option maxRecDepth 100000 in
set_option maxHeartbeats 2000000 in
theorem walk_FnExactJoinTrains (A : Option Addr) (n c : Nat) (ps : List Pr) (A' : Option Addr) (n' c' : Nat) (qs : List Pr) (w : World) (h : PairsIn w A n c ps) (h' : PairsIn w A' n' c' qs) :
    Calls Try.prog 6 #[.slice A n c, .slice A' n' c'] w fun e w' => e = .returned (.bool true) ∧ Below w.heap.size w w' := by
  obtain ⟨hl, hnc, hc, hT, hw⟩ := h
  have hnm : n ≤ maxLen := Nat.le_trans hnc hc
  have Hl := Lib.hid hl; clear hl
  have HT := Lib.hid hT; clear hT
  have Hw := Lib.hid hw; clear hw
  clear hc
  obtain ⟨hl', hnc', hc', hT', hw'⟩ := h'
  have hnm' : n' ≤ maxLen := Nat.le_trans hnc' hc'
  have Hl' := Lib.hid hl'; clear hl'
  have HT' := Lib.hid hT'; clear hT'
  have Hw' := Lib.hid hw'; clear hw'
  clear hc'
  by_cases hn : 1048576 < n
  · go_enter Try.func6, Try.ntmps6
    go_wp2_with (go_at_call 9; refine (szTrain_any _ _ _ _ hnm).mono ?_; rintro e w1 ⟨rfl, rfl⟩; rw [if_pos hn])
    go_ret
    exact ⟨rfl, Below.refl _ _⟩
  have hL0 : (0 : Int) ≤ 1048576 - (n : Int) := by omega
  have hL1 : 1048576 - (n : Int) ≤ 1048576 := by omega
  by_cases hn2 : 1048576 - (n : Int) < (n' : Int)
  · go_enter Try.func6, Try.ntmps6
    go_wp2_with fail
    refine (szTrain_any _ _ _ _ hnm).mono ?_
    rintro e w1 ⟨rfl, rfl⟩
    rw [if_neg hn]
    go_wp2_with (go_at_call 9; refine (szTrain_left _ _ _ _ _ hnm' hL0 hL1).mono ?_; rintro e w1 ⟨rfl, rfl⟩; try rw [if_pos hn2])
    go_ret
    exact ⟨rfl, Below.refl _ _⟩
  have k1 : n ≤ 1048576 := by omega
  have k1' : n' ≤ 1048576 := by omega
  go_enter Try.func6, Try.ntmps6
  go_wp2_with fail
  refine (szTrain_any _ _ _ _ hnm).mono ?_
  rintro e w1 ⟨rfl, rfl⟩
  rw [if_neg hn]
  go_wp2_with fail
  refine (szTrain_left _ _ _ _ _ hnm' hL0 hL1).mono ?_
  rintro e w1 ⟨rfl, rfl⟩
  rw [if_neg (by omega)]
  go_wp2_with fail
  refine (toTrain_any A n c ps _ Hl.out k1 (HT.out)).mono ?_
  rintro e w1 ⟨rfl, m1⟩
  have M1 := Lib.hid m1; clear m1
  have B1 : Hid (Below w.heap.size w w1) := M1.out.below
  have f1 : w.heap.size < w1.heap.size := M1.out.2.2.1
  have D1 : Hid (Below w.heap.size w w1) := B1.out
  have s1 : w.heap.size ≤ w1.heap.size := B1.out.size
  go_wp2_with fail
  refine (toTrain_any A' n' c' qs _ Hl'.out k1' (HT'.out.keep D1.out)).mono ?_
  rintro e w2 ⟨rfl, m2⟩
  have M2 := Lib.hid m2; clear m2
  have B2 : Hid (Below w1.heap.size w1 w2) := M2.out.below
  have f2 : w1.heap.size < w2.heap.size := M2.out.2.2.1
  have D2 : Hid (Below w.heap.size w w2) := bthen D1.out B2.out
  have s2 : w1.heap.size ≤ w2.heap.size := B2.out.size
  go_wp2_with fail
  refine (specJoin_any _ _ _ _ _ _ ps qs _ Hl.out Hl'.out k1 k1' (M1.out.tr.keep B2.out) M2.out.tr Hw.out Hw'.out).mono ?_
  rintro e w3 ⟨A3, n3, c3, rfl, hl3, ht3, ho3, ha3, b3⟩
  have B3 := Lib.hid b3; have L3 := Lib.hid hl3; have T3 := Lib.hid ht3; have O3 := Lib.hid ho3; have Y3 := Lib.hid ha3
  have hb3 : n3 ≤ 8 := by rw [← hl3]; exact joinT_le _ _
  clear b3 hl3 ht3 ho3 ha3
  have D3 : Hid (Below w.heap.size w w3) := bthen D2.out B3.out
  have s3 : w2.heap.size ≤ w3.heap.size := B3.out.size
  go_wp2_with fail
  refine (toTrain_any A n c ps _ Hl.out k1 (HT.out.keep D3.out)).mono ?_
  rintro e w4 ⟨rfl, m4⟩
  have M4 := Lib.hid m4; clear m4
  have B4 : Hid (Below w3.heap.size w3 w4) := M4.out.below
  have f4 : w3.heap.size < w4.heap.size := M4.out.2.2.1
  have D4 : Hid (Below w.heap.size w w4) := bthen D3.out B4.out
  have s4 : w3.heap.size ≤ w4.heap.size := B4.out.size
  go_wp2_with fail
  refine (toTrain_any A' n' c' qs _ Hl'.out k1' (HT'.out.keep D4.out)).mono ?_
  rintro e w5 ⟨rfl, m5⟩
  have M5 := Lib.hid m5; clear m5
  have B5 : Hid (Below w4.heap.size w4 w5) := M5.out.below
  have f5 : w4.heap.size < w5.heap.size := M5.out.2.2.1
  have D5 : Hid (Below w.heap.size w w5) := bthen D4.out B5.out
  have s5 : w4.heap.size ≤ w5.heap.size := B5.out.size
  go_wp2_with fail
  refine (implJoin_any _ _ _ _ _ _ ps qs _ Hl.out Hl'.out k1 k1' (Nat.le_refl _) hnm (M4.out.tr.keep B5.out) M5.out.tr Hw.out Hw'.out).mono ?_
  rintro e w6 ⟨A6, n6, c6, rfl, hl6, ht6, ho6, ha6, b6⟩
  have B6 := Lib.hid b6; have L6 := Lib.hid hl6; have T6 := Lib.hid ht6; have O6 := Lib.hid ho6; have Y6 := Lib.hid ha6
  have hb6 : n6 ≤ 8 := by rw [← hl6]; exact joinT_le _ _
  clear b6 hl6 ht6 ho6 ha6
  have D6 : Hid (Below w.heap.size w w6) := bthen D5.out B6.out
  have s6 : w5.heap.size ≤ w6.heap.size := B6.out.size
  obtain rfl : n6 = n3 := by have h1 := L3.out; have h2 := L6.out; rw [h1] at h2; exact h2.symm
  go_wp2_with fail
  refine (eqTrain_same _ _ _ _ _ (joinT ps qs) _ L6.out (Nat.le_trans hb6 (by decide : 8 ≤ 1048576)) T6.out (((T3.out.keep B4.out).keep B5.out).keep B6.out)).mono ?_
  rintro e w7 ⟨rfl, b7⟩
  have B7 := Lib.hid b7; clear b7
  have D7 : Hid (Below w.heap.size w w7) := bthen D6.out B7.out
  have s7 : w6.heap.size ≤ w7.heap.size := B7.out.size
  go_wp2_with fail
  refine (toTrain_any A n c ps _ Hl.out k1 (HT.out.keep D7.out)).mono ?_
  rintro e w8 ⟨rfl, m8⟩
  have M8 := Lib.hid m8; clear m8
  have B8 : Hid (Below w7.heap.size w7 w8) := M8.out.below
  have f8 : w7.heap.size < w8.heap.size := M8.out.2.2.1
  have D8 : Hid (Below w.heap.size w w8) := bthen D7.out B8.out
  have s8 : w7.heap.size ≤ w8.heap.size := B8.out.size
  go_wp2_with fail
  refine (eqTrain_same _ _ _ _ _ (ps) _ Hl.out k1 ((((M4.out.tr.keep B5.out).keep B6.out).keep B7.out).keep B8.out) M8.out.tr).mono ?_
  rintro e w9 ⟨rfl, b9⟩
  have B9 := Lib.hid b9; clear b9
  have D9 : Hid (Below w.heap.size w w9) := bthen D8.out B9.out
  have s9 : w8.heap.size ≤ w9.heap.size := B9.out.size
  go_wp2_with fail
  refine (toTrain_any A' n' c' qs _ Hl'.out k1' (HT'.out.keep D9.out)).mono ?_
  rintro e w10 ⟨rfl, m10⟩
  have M10 := Lib.hid m10; clear m10
  have B10 : Hid (Below w9.heap.size w9 w10) := M10.out.below
  have f10 : w9.heap.size < w10.heap.size := M10.out.2.2.1
  have D10 : Hid (Below w.heap.size w w10) := bthen D9.out B10.out
  have s10 : w9.heap.size ≤ w10.heap.size := B10.out.size
  go_wp2_with fail
  refine (eqTrain_same _ _ _ _ _ (qs) _ Hl'.out k1' (((((M5.out.tr.keep B6.out).keep B7.out).keep B8.out).keep B9.out).keep B10.out) M10.out.tr).mono ?_
  rintro e w11 ⟨rfl, b11⟩
  have B11 := Lib.hid b11; clear b11
  have D11 : Hid (Below w.heap.size w w11) := bthen D10.out B11.out
  have s11 : w10.heap.size ≤ w11.heap.size := B11.out.size
  go_wp2_with fail
  have Z12 : Hid (w11.there w3.heap.size 0 (n * 3)) := (there_of_block (there_of_block (there_of_block (there_of_block (there_of_block (there_of_block (there_of_block M4.out.1 (B5.out.block _ (by omega))) (B6.out.block _ (by omega))) (B7.out.block _ (by omega))) (B8.out.block _ (by omega))) (B9.out.block _ (by omega))) (B10.out.block _ (by omega))) (B11.out.block _ (by omega)))
  refine (markTrain_any _ _ _ _ k1 Z12.out).mono ?_
  rintro e w12 ⟨rfl, b12⟩
  have B12 := Lib.hid b12; clear b12
  have s12 : w11.heap.size = w12.heap.size := B12.out.1.symm
  have S12 := Lib.hid s12; clear s12
  have s12 : w11.heap.size ≤ w12.heap.size := by rw [S12.out]; exact Nat.le_refl _
  have t12 : w12.heap.size ≤ w11.heap.size := by rw [S12.out]; exact Nat.le_refl _
  have D12 : Hid (Below w.heap.size w w12) := D11.out.trans (B12.out.2.2 _ (fun a h => by cases h; show w.heap.size ≤ w3.heap.size; omega))
  go_wp2_with fail
  have Z13 : Hid (w12.there w4.heap.size 0 (n' * 3)) := (there_of_block (there_of_block (there_of_block (there_of_block (there_of_block (there_of_block (there_of_block M5.out.1 (B6.out.block _ (by omega))) (B7.out.block _ (by omega))) (B8.out.block _ (by omega))) (B9.out.block _ (by omega))) (B10.out.block _ (by omega))) (B11.out.block _ (by omega))) (B12.out.2.1 _ (fun a h => by cases h; show w3.heap.size ≠ _; omega)))
  refine (markTrainK_any _ _ _ _ _ k1' (by omega) (by omega) Z13.out).mono ?_
  rintro e w13 ⟨rfl, b13⟩
  have B13 := Lib.hid b13; clear b13
  have s13 : w12.heap.size = w13.heap.size := B13.out.1.symm
  have S13 := Lib.hid s13; clear s13
  have s13 : w12.heap.size ≤ w13.heap.size := by rw [S13.out]; exact Nat.le_refl _
  have t13 : w13.heap.size ≤ w12.heap.size := by rw [S13.out]; exact Nat.le_refl _
  have D13 : Hid (Below w.heap.size w w13) := D12.out.trans (B13.out.2.2 _ (fun a h => by cases h; show w.heap.size ≤ w4.heap.size; omega))
  go_wp2_with fail
  refine (eqTrain_same _ _ _ _ _ (joinT ps qs) _ L6.out (Nat.le_trans hb6 (by decide : 8 ≤ 1048576)) (((((((T6.out.keep B7.out).keep B8.out).keep B9.out).keep B10.out).keep B11.out).mb B12.out (fun a a' ha ha' => by cases ha'; have := (Y6.out a ha).1; have := (Y6.out a ha).2; show w3.heap.size ≠ a.block; omega)).mb B13.out (fun a a' ha ha' => by cases ha'; have := (Y6.out a ha).1; have := (Y6.out a ha).2; show w4.heap.size ≠ a.block; omega)) ((((((((((T3.out.keep B4.out).keep B5.out).keep B6.out).keep B7.out).keep B8.out).keep B9.out).keep B10.out).keep B11.out).mb B12.out (fun a a' ha ha' => by cases ha'; have := (Y3.out a ha).1; have := (Y3.out a ha).2; show w3.heap.size ≠ a.block; omega)).mb B13.out (fun a a' ha ha' => by cases ha'; have := (Y3.out a ha).1; have := (Y3.out a ha).2; show w4.heap.size ≠ a.block; omega))).mono ?_
  rintro e w14 ⟨rfl, b14⟩
  have B14 := Lib.hid b14; clear b14
  have D14 : Hid (Below w.heap.size w w14) := bthen D13.out B14.out
  have s14 : w13.heap.size ≤ w14.heap.size := B14.out.size
  have Z15 : Hid (0 < n6 → ∃ b, A6 = some ⟨b, 0, none⟩ ∧ b < w14.heap.size ∧ w14.there b 0 (n6 * 3)) := fun h0 => by
    obtain ⟨b, he, ht⟩ := O6.out h0
    have hy1 := (Y6.out _ he).1; have hy2 := (Y6.out _ he).2
    have hy1 : w5.heap.size ≤ b := hy1
    have hy2 : b < w6.heap.size := hy2
    exact ⟨b, he, by omega, (there_of_block (there_of_block (there_of_block (there_of_block (there_of_block (there_of_block (there_of_block (there_of_block ht (B7.out.block _ (by omega))) (B8.out.block _ (by omega))) (B9.out.block _ (by omega))) (B10.out.block _ (by omega))) (B11.out.block _ (by omega))) (B12.out.2.1 _ (fun a h => by cases h; show w3.heap.size ≠ _; omega))) (B13.out.2.1 _ (fun a h => by cases h; show w4.heap.size ≠ _; omega))) (B14.out.block _ (by omega)))⟩
  go_wp2_with fail
  refine (markTrR_any A6 _ _ _ hb6 Z15.out).mono ?_
  rintro e w15 ⟨rfl, b15, mk15⟩
  have B15 := Lib.hid b15; have K15 := Lib.hid mk15; clear b15 mk15
  have S15 := Lib.hid B15.out.1
  have s15 : w14.heap.size ≤ w15.heap.size := by rw [S15.out]; exact Nat.le_refl _
  have t15 : w15.heap.size ≤ w14.heap.size := by rw [S15.out]; exact Nat.le_refl _
  have D15 : Hid (Below w.heap.size w w15) := D14.out.trans (B15.out.2.2 _ (fun a h => by have := (Y6.out a h).1; omega))
  go_wp2_with fail
  refine (heldTrR_any A6 _ _ _ hb6 K15.out).mono ?_
  rintro e w16 ⟨rfl, b16⟩
  have B16 := Lib.hid b16; clear b16
  have D16 : Hid (Below w.heap.size w w16) := bthen D15.out B16.out
  have s16 : w15.heap.size ≤ w16.heap.size := B16.out.size
  go_wp2_with fail
  refine (toTrain_any A n c ps _ Hl.out k1 (HT.out.keep D16.out)).mono ?_
  rintro e w17 ⟨rfl, m17⟩
  have M17 := Lib.hid m17; clear m17
  have B17 : Hid (Below w16.heap.size w16 w17) := M17.out.below
  have f17 : w16.heap.size < w17.heap.size := M17.out.2.2.1
  have D17 : Hid (Below w.heap.size w w17) := bthen D16.out B17.out
  have s17 : w16.heap.size ≤ w17.heap.size := B17.out.size
  go_wp2_with fail
  refine (toTrain_any A' n' c' qs _ Hl'.out k1' (HT'.out.keep D17.out)).mono ?_
  rintro e w18 ⟨rfl, m18⟩
  have M18 := Lib.hid m18; clear m18
  have B18 : Hid (Below w17.heap.size w17 w18) := M18.out.below
  have f18 : w17.heap.size < w18.heap.size := M18.out.2.2.1
  have D18 : Hid (Below w.heap.size w w18) := bthen D17.out B18.out
  have s18 : w17.heap.size ≤ w18.heap.size := B18.out.size
  go_wp2_with fail
  refine (implJoin_any _ _ _ _ _ _ ps qs _ Hl.out Hl'.out k1 k1' (Nat.le_refl _) hnm (M17.out.tr.keep B18.out) M18.out.tr Hw.out Hw'.out).mono ?_
  rintro e w19 ⟨A19, n19, c19, rfl, hl19, ht19, ho19, ha19, b19⟩
  have B19 := Lib.hid b19; have L19 := Lib.hid hl19; have T19 := Lib.hid ht19; have O19 := Lib.hid ho19; have Y19 := Lib.hid ha19
  have hb19 : n19 ≤ 8 := by rw [← hl19]; exact joinT_le _ _
  clear b19 hl19 ht19 ho19 ha19
  have D19 : Hid (Below w.heap.size w w19) := bthen D18.out B19.out
  have s19 : w18.heap.size ≤ w19.heap.size := B19.out.size
  obtain rfl : n19 = n6 := by have h1 := L6.out; have h2 := L19.out; rw [h1] at h2; exact h2.symm
  go_wp2_with fail
  refine (eqTrain_same _ _ _ _ _ (joinT ps qs) _ L19.out (Nat.le_trans hb19 (by decide : 8 ≤ 1048576)) T19.out ((((((((((((((((T3.out.keep B4.out).keep B5.out).keep B6.out).keep B7.out).keep B8.out).keep B9.out).keep B10.out).keep B11.out).mb B12.out (fun a a' ha ha' => by cases ha'; have := (Y3.out a ha).1; have := (Y3.out a ha).2; show w3.heap.size ≠ a.block; omega)).mb B13.out (fun a a' ha ha' => by cases ha'; have := (Y3.out a ha).1; have := (Y3.out a ha).2; show w4.heap.size ≠ a.block; omega)).keep B14.out).mb B15.out (fun a a' ha ha' => by have := (Y6.out a' ha').1; have := (Y6.out a' ha').2; have := (Y3.out a ha).1; have := (Y3.out a ha).2; omega)).keep B16.out).keep B17.out).keep B18.out).keep B19.out)).mono ?_
  rintro e w20 ⟨rfl, b20⟩
  have B20 := Lib.hid b20; clear b20
  have D20 : Hid (Below w.heap.size w w20) := bthen D19.out B20.out
  have s20 : w19.heap.size ≤ w20.heap.size := B20.out.size
  go_wp2_with fail
  refine (heldTrR_any A6 _ _ _ hb19 (((((K15.out.keep B16.out).keep B17.out).keep B18.out).keep B19.out).keep B20.out)).mono ?_
  rintro e w21 ⟨rfl, b21⟩
  have B21 := Lib.hid b21; clear b21
  have D21 : Hid (Below w.heap.size w w21) := bthen D20.out B21.out
  have s21 : w20.heap.size ≤ w21.heap.size := B21.out.size
  go_wp2
  go_ret
  exact ⟨rfl, D21.out⟩
end Go.Proofs.Ytolbacgfcobmdaa
