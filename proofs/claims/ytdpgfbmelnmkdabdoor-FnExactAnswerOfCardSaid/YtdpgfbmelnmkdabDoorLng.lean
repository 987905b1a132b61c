/-
  The law of AnswerOf.
-/
import Derived.Test.YtdpgfbmelnmkdabDoorLnf
namespace Go.Proofs.YtdpgfbmelnmkdabDoor
open Go.RowKit Go.ChangeShapes Go.WideShapes Go.Deep
attribute [local go_sem ↓] Go.wp_at_zero Go.wp_at_succ
set_option linter.unusedVariables false
set_option linter.unusedSimpArgs false
set_option maxRecDepth 100000 in
set_option maxHeartbeats 4000000 in
theorem walk_FnExactAnswerOf (A_0 : Option Addr) (n_0 c_0 : Nat) (p_0 : List Dc) (x1 : Nat) (wx1 : (Lit.float .f32 x1).wf = true) (w : World) (h_0 : Dc.In w A_0 n_0 c_0 p_0) (hE : EtAt w) :
    Calls Tryd.prog 5 #[.slice A_0 n_0 c_0, .float .f32 x1] w fun e w' => e = .returned (.bool true) ∧ Below w.heap.size w w' := by
  have HE := Lib.hid hE; clear hE
  obtain ⟨hl0, hnc0, hc0, hT0, hw0⟩ := h_0
  have hnm0 : n_0 ≤ maxLen := Nat.le_trans hnc0 hc0
  unfold maxLen at hnm0
  have Hl0 := Lib.hid hl0; clear hl0
  have HT0 := Lib.hid hT0; clear hT0
  have Hw0 := Lib.hid hw0; clear hw0
  clear hnc0 hc0
  by_cases z0 : 1048576 < (n_0 : Int)
  · go_enter Tryd.func5, Tryd.ntmps5
    go_wp2_with fail
    refine (Dc.sz_any _ _ _ _ _ (by unfold maxLen; exact hnm0) (by omega) (by omega)).mono ?_
    rintro e v0 ⟨rfl, rfl⟩
    rw [if_pos (by omega)]
    go_wp2
    go_ret
    exact ⟨rfl, Below.refl _ _⟩
  have kb0 : n_0 ≤ 1048576 := by omega
  go_enter Tryd.func5, Tryd.ntmps5
  go_wp2_with fail
  refine (Dc.sz_any _ _ _ _ _ (by unfold maxLen; exact hnm0) (by omega) (by omega)).mono ?_
  rintro e v0 ⟨rfl, rfl⟩
  rw [if_neg (by omega)]
  go_wp2_with fail
  refine (Dc.to_any A_0 n_0 c_0 p_0 _ Hl0.out kb0 HT0.out).mono ?_
  rintro e w1 ⟨rfl, m1⟩
  have M1 := Lib.hid m1; clear m1
  have B1 : Hid (Below w.heap.size w w1) := M1.out.2.2.2
  have f1 : w.heap.size < w1.heap.size := M1.out.2.2.1
  have D1 : Hid (Below w.heap.size w w1) := B1.out
  have s1 : w.heap.size ≤ w1.heap.size := B1.out.size
  go_wp2_with fail
  refine (specAnswerOf_any _ _ _ p_0 x1 _ Hl0.out kb0 M1.out.l).mono ?_
  rintro e w2 ⟨A2_0, n2_0, c2_0, fs2_0, A2_1, n2_1, c2_1, fs2_1, rfl, hl2_0, hc2_0, hf2_0, ho2_0, ha2_0, hl2_1, hc2_1, hf2_1, ho2_1, ha2_1, hx2, b2⟩
  have hb2_0 : n2_0 ≤ 10 := by
    have hx := congrArg List.length hc2_0
    rw [List.length_map, hl2_0] at hx
    rw [hx]
    exact listA_le _ _ _
  have L2_0 := Lib.hid hl2_0; have C2_0 := Lib.hid hc2_0; have F2_0 := Lib.hid hf2_0.weak; have O2_0 := Lib.hid ho2_0; have Y2_0 := Lib.hid ha2_0
  clear hl2_0 hc2_0 hf2_0 ho2_0 ha2_0
  have hb2_1 : n2_1 ≤ 10 := by
    have hx := congrArg List.length hc2_1
    rw [List.length_map, hl2_1] at hx
    rw [hx]
    exact listA_le _ _ _
  have L2_1 := Lib.hid hl2_1; have C2_1 := Lib.hid hc2_1; have F2_1 := Lib.hid hf2_1.weak; have O2_1 := Lib.hid ho2_1; have Y2_1 := Lib.hid ha2_1
  clear hl2_1 hc2_1 hf2_1 ho2_1 ha2_1
  have B2 := Lib.hid b2; have X2 := Lib.hid hx2; clear b2 hx2
  have D2 : Hid (Below w.heap.size w w2) := b_then D1.out B2.out
  have s2 : w1.heap.size ≤ w2.heap.size := B2.out.size
  go_wp2_with fail
  refine (Dc.to_any A_0 n_0 c_0 p_0 _ Hl0.out kb0 (HT0.out.keep D2.out)).mono ?_
  rintro e w3 ⟨rfl, m3⟩
  have M3 := Lib.hid m3; clear m3
  have B3 : Hid (Below w2.heap.size w2 w3) := M3.out.2.2.2
  have f3 : w2.heap.size < w3.heap.size := M3.out.2.2.1
  have D3 : Hid (Below w.heap.size w w3) := b_then D2.out B3.out
  have s3 : w2.heap.size ≤ w3.heap.size := B3.out.size
  go_wp2_with fail
  refine (implAnswerOf_any _ _ _ p_0 x1 _ (EtAt.on HE.out (by rfl) D3.out) Hl0.out kb0 M3.out.l).mono ?_
  rintro e w4 ⟨A4_0, n4_0, c4_0, fs4_0, A4_1, n4_1, c4_1, fs4_1, rfl, hl4_0, hc4_0, hf4_0, ho4_0, ha4_0, hl4_1, hc4_1, hf4_1, ho4_1, ha4_1, hx4, b4⟩
  have hb4_0 : n4_0 ≤ 10 := by
    have hx := congrArg List.length hc4_0
    rw [List.length_map, hl4_0] at hx
    rw [hx]
    exact listA_le _ _ _
  have L4_0 := Lib.hid hl4_0; have C4_0 := Lib.hid hc4_0; have F4_0 := Lib.hid hf4_0.weak; have O4_0 := Lib.hid ho4_0; have Y4_0 := Lib.hid ha4_0
  clear hl4_0 hc4_0 hf4_0 ho4_0 ha4_0
  have hb4_1 : n4_1 ≤ 10 := by
    have hx := congrArg List.length hc4_1
    rw [List.length_map, hl4_1] at hx
    rw [hx]
    exact listA_le _ _ _
  have L4_1 := Lib.hid hl4_1; have C4_1 := Lib.hid hc4_1; have F4_1 := Lib.hid hf4_1.weak; have O4_1 := Lib.hid ho4_1; have Y4_1 := Lib.hid ha4_1
  clear hl4_1 hc4_1 hf4_1 ho4_1 ha4_1
  have B4 := Lib.hid b4; have X4 := Lib.hid hx4; clear b4 hx4
  have D4 : Hid (Below w.heap.size w w4) := b_then D3.out B4.out
  have s4 : w3.heap.size ≤ w4.heap.size := B4.out.size
  have E4_0 : Hid (fs4_0.map cn = fs2_0.map cn) := C4_0.out.trans C2_0.out.symm
  obtain rfl : n4_0 = n2_0 := by
    have h1 := congrArg List.length E4_0.out
    rw [List.length_map, List.length_map, L4_0.out, L2_0.out] at h1
    exact h1
  have E4_1 : Hid (fs4_1.map cn = fs2_1.map cn) := C4_1.out.trans C2_1.out.symm
  obtain rfl : n4_1 = n2_1 := by
    have h1 := congrArg List.length E4_1.out
    rw [List.length_map, List.length_map, L4_1.out, L2_1.out] at h1
    exact h1
  go_wp2_with fail
  refine (eqFloats_same _ _ _ _ _ fs4_0 fs2_0 _ L4_0.out E4_0.out (Nat.le_trans hb4_0 (by decide : 10 ≤ 1048576)) F4_0.out ((F2_0.out.keep B3.out).keep B4.out)).mono ?_
  rintro e w5 ⟨rfl, b5⟩
  have B5 := Lib.hid b5; clear b5
  have D5 : Hid (Below w.heap.size w w5) := b_then D4.out B5.out
  have s5 : w4.heap.size ≤ w5.heap.size := B5.out.size
  go_wp2_with fail
  refine (eqFloats_same _ _ _ _ _ fs4_1 fs2_1 _ L4_1.out E4_1.out (Nat.le_trans hb4_1 (by decide : 10 ≤ 1048576)) (F4_1.out.keep B5.out) (((F2_1.out.keep B3.out).keep B4.out).keep B5.out)).mono ?_
  rintro e w6 ⟨rfl, b6⟩
  have B6 := Lib.hid b6; clear b6
  have D6 : Hid (Below w.heap.size w w6) := b_then D5.out B6.out
  have s6 : w5.heap.size ≤ w6.heap.size := B6.out.size
  go_wp2_with fail
  refine (Dc.to_any A_0 n_0 c_0 p_0 _ Hl0.out kb0 (HT0.out.keep D6.out)).mono ?_
  rintro e w7 ⟨rfl, m7⟩
  have M7 := Lib.hid m7; clear m7
  have B7 : Hid (Below w6.heap.size w6 w7) := M7.out.2.2.2
  have f7 : w6.heap.size < w7.heap.size := M7.out.2.2.1
  have D7 : Hid (Below w.heap.size w w7) := b_then D6.out B7.out
  have s7 : w6.heap.size ≤ w7.heap.size := B7.out.size
  go_wp2_with fail
  refine (Dc.eq_any _ _ _ _ _ p_0 p_0 _ Hl0.out rfl kb0 ((((M3.out.l.keep B4.out).keep B5.out).keep B6.out).keep B7.out) M7.out.l).mono ?_
  rintro e w8 ⟨rfl, b8⟩
  have B8 := Lib.hid b8; clear b8
  have D8 : Hid (Below w.heap.size w w8) := b_then D7.out B8.out
  have s8 : w7.heap.size ≤ w8.heap.size := B8.out.size
  go_wp2_with fail
  refine (Dc.mark_any _ _ _ _ _ kb0 (by omega) (by omega) (there_of_block (there_of_block (there_of_block (there_of_block (there_of_block M3.out.1 (B4.out.block _ (by omega))) (B5.out.block _ (by omega))) (B6.out.block _ (by omega))) (B7.out.block _ (by omega))) (B8.out.block _ (by omega)))).mono ?_
  rintro e w9 ⟨rfl, b9⟩
  have B9 := Lib.hid b9; clear b9
  have S9 := Lib.hid B9.out.1
  have s9 : w8.heap.size ≤ w9.heap.size := by rw [S9.out]; exact Nat.le_refl _
  have t9 : w9.heap.size ≤ w8.heap.size := by rw [S9.out]; exact Nat.le_refl _
  have D9 : Hid (Below w.heap.size w w9) := D8.out.trans (B9.out.2.2 _ (fun a h => by cases h; show w.heap.size ≤ w2.heap.size; omega))
  go_wp2_with fail
  refine (eqFloats_same _ _ _ _ _ fs4_0 fs2_0 _ L4_0.out E4_0.out (Nat.le_trans hb4_0 (by decide : 10 ≤ 1048576)) (((((F4_0.out.keep B5.out).keep B6.out).keep B7.out).keep B8.out).mb0 B9.out (fun a a' ha ha' => by cases ha'; have := (Y4_0.out a ha).1; have := (Y4_0.out a ha).2; show w2.heap.size ≠ a.block; omega)) (((((((F2_0.out.keep B3.out).keep B4.out).keep B5.out).keep B6.out).keep B7.out).keep B8.out).mb0 B9.out (fun a a' ha ha' => by cases ha'; have := (Y2_0.out a ha).1; have := (Y2_0.out a ha).2; show w2.heap.size ≠ a.block; omega))).mono ?_
  rintro e w10 ⟨rfl, b10⟩
  have B10 := Lib.hid b10; clear b10
  have D10 : Hid (Below w.heap.size w w10) := b_then D9.out B10.out
  have s10 : w9.heap.size ≤ w10.heap.size := B10.out.size
  go_wp2_with fail
  refine (eqFloats_same _ _ _ _ _ fs4_1 fs2_1 _ L4_1.out E4_1.out (Nat.le_trans hb4_1 (by decide : 10 ≤ 1048576)) ((((((F4_1.out.keep B5.out).keep B6.out).keep B7.out).keep B8.out).mb0 B9.out (fun a a' ha ha' => by cases ha'; have := (Y4_1.out a ha).1; have := (Y4_1.out a ha).2; show w2.heap.size ≠ a.block; omega)).keep B10.out) ((((((((F2_1.out.keep B3.out).keep B4.out).keep B5.out).keep B6.out).keep B7.out).keep B8.out).mb0 B9.out (fun a a' ha ha' => by cases ha'; have := (Y2_1.out a ha).1; have := (Y2_1.out a ha).2; show w2.heap.size ≠ a.block; omega)).keep B10.out)).mono ?_
  rintro e w11 ⟨rfl, b11⟩
  have B11 := Lib.hid b11; clear b11
  have D11 : Hid (Below w.heap.size w w11) := b_then D10.out B11.out
  have s11 : w10.heap.size ≤ w11.heap.size := B11.out.size
  have Z12 : Hid (0 < n4_0 → ∃ b, A4_0 = some ⟨b, 0, none⟩ ∧ w11.there b 0 n4_0) := fun h0 => by
    obtain ⟨b, he, ht⟩ := O4_0.out h0
    have hy1 : w3.heap.size ≤ b := (Y4_0.out _ he).1
    have hy2 : b < w4.heap.size := (Y4_0.out _ he).2
    exact ⟨b, he, (there_of_block (there_of_block (there_of_block (there_of_block (there_of_block (there_of_block (there_of_block ht (B5.out.block _ (by omega))) (B6.out.block _ (by omega))) (B7.out.block _ (by omega))) (B8.out.block _ (by omega))) (B9.out.2.1 _ (fun a h => by cases h; show w2.heap.size ≠ _; omega))) (B10.out.block _ (by omega))) (B11.out.block _ (by omega)))⟩
  go_wp2_with fail
  refine (markFloats_any A4_0 _ _ (1) _ (Nat.le_trans hb4_0 (by decide : 10 ≤ 1048576)) (by omega) Z12.out).mono ?_
  rintro e w12 ⟨rfl, b12, mk12⟩
  have B12 := Lib.hid b12; have K12 := Lib.hid mk12; clear b12 mk12
  have S12 := Lib.hid B12.out.1
  have s12 : w11.heap.size ≤ w12.heap.size := by rw [S12.out]; exact Nat.le_refl _
  have t12 : w12.heap.size ≤ w11.heap.size := by rw [S12.out]; exact Nat.le_refl _
  have D12 : Hid (Below w.heap.size w w12) := D11.out.trans (B12.out.2.2 _ (fun a h => by have := (Y4_0.out a h).1; omega))
  have Z13 : Hid (0 < n4_1 → ∃ b, A4_1 = some ⟨b, 0, none⟩ ∧ w12.there b 0 n4_1) := fun h0 => by
    obtain ⟨b, he, ht⟩ := O4_1.out h0
    have hy1 : w3.heap.size ≤ b := (Y4_1.out _ he).1
    have hy2 : b < w4.heap.size := (Y4_1.out _ he).2
    exact ⟨b, he, (there_of_block (there_of_block (there_of_block (there_of_block (there_of_block (there_of_block (there_of_block (there_of_block ht (B5.out.block _ (by omega))) (B6.out.block _ (by omega))) (B7.out.block _ (by omega))) (B8.out.block _ (by omega))) (B9.out.2.1 _ (fun a h => by cases h; show w2.heap.size ≠ _; omega))) (B10.out.block _ (by omega))) (B11.out.block _ (by omega))) (B12.out.2.1 _ (fun a h => (X4.out a (⟨b, 0, none⟩ : Addr) h he))))⟩
  go_wp2_with fail
  refine (markFloats_any A4_1 _ _ (1 + (n4_0 : Int)) _ (Nat.le_trans hb4_1 (by decide : 10 ≤ 1048576)) (by omega) Z13.out).mono ?_
  rintro e w13 ⟨rfl, b13, mk13⟩
  have B13 := Lib.hid b13; have K13 := Lib.hid mk13; clear b13 mk13
  have S13 := Lib.hid B13.out.1
  have s13 : w12.heap.size ≤ w13.heap.size := by rw [S13.out]; exact Nat.le_refl _
  have t13 : w13.heap.size ≤ w12.heap.size := by rw [S13.out]; exact Nat.le_refl _
  have D13 : Hid (Below w.heap.size w w13) := D12.out.trans (B13.out.2.2 _ (fun a h => by have := (Y4_1.out a h).1; omega))
  have KKa0 : Hid (0 < n4_0 → ∃ b, A4_0 = some ⟨b, 0, none⟩ ∧ ∀ i : Nat, i < n4_0 → w13.cell? ⟨b, i, none⟩ = some (.float .f32 (floatOfInt .f32 (1 + i)))) := fun h0 => by
    obtain ⟨b, he, hcs⟩ := K12.out h0
    have hy2 : b < w4.heap.size := (Y4_0.out _ he).2
    exact ⟨b, he, fun i hi => (World.cell?_of_block (a := ⟨b, i, none⟩) (B13.out.2.1 _ (fun a h => Ne.symm (X4.out (⟨b, 0, none⟩ : Addr) a he h)))).trans (hcs i hi)⟩
  go_wp2_with fail
  refine (heldFloats_any A4_0 _ _ (1) _ (Nat.le_trans hb4_0 (by decide : 10 ≤ 1048576)) (by omega) KKa0.out).mono ?_
  rintro e wx ⟨rfl, rfl⟩
  have KKa1 : Hid (0 < n4_1 → ∃ b, A4_1 = some ⟨b, 0, none⟩ ∧ ∀ i : Nat, i < n4_1 → w13.cell? ⟨b, i, none⟩ = some (.float .f32 (floatOfInt .f32 (1 + (n4_0 : Int) + i)))) := fun h0 => by
    obtain ⟨b, he, hcs⟩ := K13.out h0
    have hy2 : b < w4.heap.size := (Y4_1.out _ he).2
    exact ⟨b, he, fun i hi => hcs i hi⟩
  go_wp2_with fail
  refine (heldFloats_any A4_1 _ _ (1 + (n4_0 : Int)) _ (Nat.le_trans hb4_1 (by decide : 10 ≤ 1048576)) (by omega) KKa1.out).mono ?_
  rintro e wx ⟨rfl, rfl⟩
  go_wp2_with fail
  refine (Dc.to_any A_0 n_0 c_0 p_0 _ Hl0.out kb0 (HT0.out.keep D13.out)).mono ?_
  rintro e w14 ⟨rfl, m14⟩
  have M14 := Lib.hid m14; clear m14
  have B14 : Hid (Below w13.heap.size w13 w14) := M14.out.2.2.2
  have f14 : w13.heap.size < w14.heap.size := M14.out.2.2.1
  have D14 : Hid (Below w.heap.size w w14) := b_then D13.out B14.out
  have s14 : w13.heap.size ≤ w14.heap.size := B14.out.size
  go_wp2_with fail
  refine (implAnswerOf_any _ _ _ p_0 x1 _ (EtAt.on HE.out (by rfl) D14.out) Hl0.out kb0 M14.out.l).mono ?_
  rintro e w15 ⟨A15_0, n15_0, c15_0, fs15_0, A15_1, n15_1, c15_1, fs15_1, rfl, hl15_0, hc15_0, hf15_0, ho15_0, ha15_0, hl15_1, hc15_1, hf15_1, ho15_1, ha15_1, hx15, b15⟩
  have hb15_0 : n15_0 ≤ 10 := by
    have hx := congrArg List.length hc15_0
    rw [List.length_map, hl15_0] at hx
    rw [hx]
    exact listA_le _ _ _
  have L15_0 := Lib.hid hl15_0; have C15_0 := Lib.hid hc15_0; have F15_0 := Lib.hid hf15_0.weak; have O15_0 := Lib.hid ho15_0; have Y15_0 := Lib.hid ha15_0
  clear hl15_0 hc15_0 hf15_0 ho15_0 ha15_0
  have hb15_1 : n15_1 ≤ 10 := by
    have hx := congrArg List.length hc15_1
    rw [List.length_map, hl15_1] at hx
    rw [hx]
    exact listA_le _ _ _
  have L15_1 := Lib.hid hl15_1; have C15_1 := Lib.hid hc15_1; have F15_1 := Lib.hid hf15_1.weak; have O15_1 := Lib.hid ho15_1; have Y15_1 := Lib.hid ha15_1
  clear hl15_1 hc15_1 hf15_1 ho15_1 ha15_1
  have B15 := Lib.hid b15; have X15 := Lib.hid hx15; clear b15 hx15
  have D15 : Hid (Below w.heap.size w w15) := b_then D14.out B15.out
  have s15 : w14.heap.size ≤ w15.heap.size := B15.out.size
  have E15_0 : Hid (fs15_0.map cn = fs2_0.map cn) := C15_0.out.trans C2_0.out.symm
  obtain rfl : n15_0 = n4_0 := by
    have h1 := congrArg List.length E15_0.out
    rw [List.length_map, List.length_map, L15_0.out, L2_0.out] at h1
    exact h1
  have E15_1 : Hid (fs15_1.map cn = fs2_1.map cn) := C15_1.out.trans C2_1.out.symm
  obtain rfl : n15_1 = n4_1 := by
    have h1 := congrArg List.length E15_1.out
    rw [List.length_map, List.length_map, L15_1.out, L2_1.out] at h1
    exact h1
  go_wp2_with fail
  refine (eqFloats_same _ _ _ _ _ fs15_0 fs2_0 _ L15_0.out E15_0.out (Nat.le_trans hb15_0 (by decide : 10 ≤ 1048576)) F15_0.out (((((((((((((F2_0.out.keep B3.out).keep B4.out).keep B5.out).keep B6.out).keep B7.out).keep B8.out).mb0 B9.out (fun a a' ha ha' => by cases ha'; have := (Y2_0.out a ha).1; have := (Y2_0.out a ha).2; show w2.heap.size ≠ a.block; omega)).keep B10.out).keep B11.out).mb0 B12.out (fun a a' ha ha' => by have := (Y4_0.out a' ha').1; have := (Y4_0.out a' ha').2; have := (Y2_0.out a ha).1; have := (Y2_0.out a ha).2; omega)).mb0 B13.out (fun a a' ha ha' => by have := (Y4_1.out a' ha').1; have := (Y4_1.out a' ha').2; have := (Y2_0.out a ha).1; have := (Y2_0.out a ha).2; omega)).keep B14.out).keep B15.out)).mono ?_
  rintro e w16 ⟨rfl, b16⟩
  have B16 := Lib.hid b16; clear b16
  have D16 : Hid (Below w.heap.size w w16) := b_then D15.out B16.out
  have s16 : w15.heap.size ≤ w16.heap.size := B16.out.size
  go_wp2_with fail
  refine (eqFloats_same _ _ _ _ _ fs15_1 fs2_1 _ L15_1.out E15_1.out (Nat.le_trans hb15_1 (by decide : 10 ≤ 1048576)) (F15_1.out.keep B16.out) ((((((((((((((F2_1.out.keep B3.out).keep B4.out).keep B5.out).keep B6.out).keep B7.out).keep B8.out).mb0 B9.out (fun a a' ha ha' => by cases ha'; have := (Y2_1.out a ha).1; have := (Y2_1.out a ha).2; show w2.heap.size ≠ a.block; omega)).keep B10.out).keep B11.out).mb0 B12.out (fun a a' ha ha' => by have := (Y4_0.out a' ha').1; have := (Y4_0.out a' ha').2; have := (Y2_1.out a ha).1; have := (Y2_1.out a ha).2; omega)).mb0 B13.out (fun a a' ha ha' => by have := (Y4_1.out a' ha').1; have := (Y4_1.out a' ha').2; have := (Y2_1.out a ha).1; have := (Y2_1.out a ha).2; omega)).keep B14.out).keep B15.out).keep B16.out)).mono ?_
  rintro e w17 ⟨rfl, b17⟩
  have B17 := Lib.hid b17; clear b17
  have D17 : Hid (Below w.heap.size w w17) := b_then D16.out B17.out
  have s17 : w16.heap.size ≤ w17.heap.size := B17.out.size
  have KKb0 : Hid (0 < n15_0 → ∃ b, A4_0 = some ⟨b, 0, none⟩ ∧ ∀ i : Nat, i < n15_0 → w17.cell? ⟨b, i, none⟩ = some (.float .f32 (floatOfInt .f32 (1 + i)))) := fun h0 => by
    obtain ⟨b, he, hcs⟩ := K12.out h0
    have hy2 : b < w4.heap.size := (Y4_0.out _ he).2
    exact ⟨b, he, fun i hi => (World.cell?_of_block (a := ⟨b, i, none⟩) (B17.out.block b (by omega))).trans ((World.cell?_of_block (a := ⟨b, i, none⟩) (B16.out.block b (by omega))).trans ((World.cell?_of_block (a := ⟨b, i, none⟩) (B15.out.block b (by omega))).trans ((World.cell?_of_block (a := ⟨b, i, none⟩) (B14.out.block b (by omega))).trans ((World.cell?_of_block (a := ⟨b, i, none⟩) (B13.out.2.1 _ (fun a h => Ne.symm (X4.out (⟨b, 0, none⟩ : Addr) a he h)))).trans (hcs i hi)))))⟩
  go_wp2_with fail
  refine (heldFloats_any A4_0 _ _ (1) _ (Nat.le_trans hb15_0 (by decide : 10 ≤ 1048576)) (by omega) KKb0.out).mono ?_
  rintro e wx ⟨rfl, rfl⟩
  have KKb1 : Hid (0 < n15_1 → ∃ b, A4_1 = some ⟨b, 0, none⟩ ∧ ∀ i : Nat, i < n15_1 → w17.cell? ⟨b, i, none⟩ = some (.float .f32 (floatOfInt .f32 (1 + (n15_0 : Int) + i)))) := fun h0 => by
    obtain ⟨b, he, hcs⟩ := K13.out h0
    have hy2 : b < w4.heap.size := (Y4_1.out _ he).2
    exact ⟨b, he, fun i hi => (World.cell?_of_block (a := ⟨b, i, none⟩) (B17.out.block b (by omega))).trans ((World.cell?_of_block (a := ⟨b, i, none⟩) (B16.out.block b (by omega))).trans ((World.cell?_of_block (a := ⟨b, i, none⟩) (B15.out.block b (by omega))).trans ((World.cell?_of_block (a := ⟨b, i, none⟩) (B14.out.block b (by omega))).trans (hcs i hi))))⟩
  go_wp2_with fail
  refine (heldFloats_any A4_1 _ _ (1 + (n15_0 : Int)) _ (Nat.le_trans hb15_1 (by decide : 10 ≤ 1048576)) (by omega) KKb1.out).mono ?_
  rintro e wx ⟨rfl, rfl⟩
  go_wp2
  go_ret
  exact ⟨rfl, D17.out⟩
end Go.Proofs.YtdpgfbmelnmkdabDoor
