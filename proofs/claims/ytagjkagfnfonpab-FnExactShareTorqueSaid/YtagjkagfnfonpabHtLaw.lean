/-
  The law of a torque that is shared.
-/
import Derived.Test.YtagjkagfnfonpabHt
import Derived.Test.YtagjkagfnfonpabFlIn2
namespace Go.Proofs.Ytagjkagfnfonpab
open Go.RowKit Go.ChangeShapes Go.WideShapes Go.Deep
attribute [local go_sem ↓] Go.wp_at_zero Go.wp_at_succ
set_option linter.unusedVariables false
set_option linter.unusedSimpArgs false
set_option maxRecDepth 100000 in
set_option maxHeartbeats 4000000 in
theorem walk_FnExactShareTorque (A_0 : Option Addr) (n_0 c_0 : Nat) (p_0 : List Sn) (x1 : Nat) (_ : (Lit.float .f32 x1).wf = true) (x2 : Nat) (_ : (Lit.float .f32 x2).wf = true) (w : World) (h_0 : Sn.In w A_0 n_0 c_0 p_0) :
    Calls Try.prog 5 #[.slice A_0 n_0 c_0, .float .f32 x1, .float .f32 x2] w fun e w' => e = .returned (.bool true) ∧ Below w.heap.size w w' := by
  obtain ⟨hl0, hnc0, hc0, hT0, hw0⟩ := h_0
  have hnm0 : n_0 ≤ maxLen := Nat.le_trans hnc0 hc0
  have Hl0 := Lib.hid hl0; clear hl0
  have HT0 := Lib.hid hT0; clear hT0
  have Hw0 := Lib.hid hw0; clear hw0
  clear hnc0 hc0
  by_cases z0 : 1048576 < (n_0 : Int)
  · go_enter Try.func5, Try.ntmps5
    go_wp2_with fail
    refine (Sn.sz_any _ _ _ _ _ hnm0 (by omega) (by omega)).mono ?_
    rintro e v0 ⟨rfl, rfl⟩
    rw [if_pos (by omega)]
    go_wp2
    go_ret
    exact ⟨rfl, Below.refl _ _⟩
  have kb0 : n_0 ≤ 1048576 := by omega
  go_enter Try.func5, Try.ntmps5
  go_wp2_with fail
  refine (Sn.sz_any _ _ _ _ _ hnm0 (by omega) (by omega)).mono ?_
  rintro e v0 ⟨rfl, rfl⟩
  rw [if_neg (by omega)]
  go_wp2_with fail
  refine (Sn.to_any A_0 n_0 c_0 p_0 _ Hl0.out kb0 HT0.out).mono ?_
  rintro e w1 ⟨rfl, m1⟩
  have M1 := Lib.hid m1; clear m1
  have B1 : Hid (Below w.heap.size w w1) := M1.out.2.2.2
  have f1 : w.heap.size < w1.heap.size := M1.out.2.2.1
  have D1 : Hid (Below w.heap.size w w1) := B1.out
  have s1 : w.heap.size ≤ w1.heap.size := B1.out.size
  go_wp2_with fail
  refine (specShare_any _ _ _ p_0 x1 x2 _ Hl0.out kb0 M1.out.l).mono ?_
  rintro e w2 ⟨A2, n2, c2, fs2, rfl, hl2, hc2, hf2, ho2, ha2, b2⟩
  have hb2 : n2 ≤ 60 := by
    have hx := congrArg List.length hc2
    rw [List.length_map, hl2] at hx
    rw [hx]
    exact shT_le _ _ _
  have B2 := Lib.hid b2; have L2 := Lib.hid hl2; have C2 := Lib.hid hc2; have F2 := Lib.hid hf2.weak; have O2 := Lib.hid ho2; have Y2 := Lib.hid ha2
  clear b2 hl2 hc2 hf2 ho2 ha2
  have D2 : Hid (Below w.heap.size w w2) := b_then D1.out B2.out
  have s2 : w1.heap.size ≤ w2.heap.size := B2.out.size
  go_wp2_with fail
  refine (Sn.to_any A_0 n_0 c_0 p_0 _ Hl0.out kb0 (HT0.out.keep D2.out)).mono ?_
  rintro e w3 ⟨rfl, m3⟩
  have M3 := Lib.hid m3; clear m3
  have B3 : Hid (Below w2.heap.size w2 w3) := M3.out.2.2.2
  have f3 : w2.heap.size < w3.heap.size := M3.out.2.2.1
  have D3 : Hid (Below w.heap.size w w3) := b_then D2.out B3.out
  have s3 : w2.heap.size ≤ w3.heap.size := B3.out.size
  go_wp2_with fail
  refine (implShare_any _ _ _ p_0 x1 x2 _ Hl0.out kb0 M3.out.l).mono ?_
  rintro e w4 ⟨A4, n4, c4, fs4, rfl, hl4, hc4, hf4, ho4, ha4, b4⟩
  have hb4 : n4 ≤ 60 := by
    have hx := congrArg List.length hc4
    rw [List.length_map, hl4] at hx
    rw [hx]
    exact shT_le _ _ _
  have B4 := Lib.hid b4; have L4 := Lib.hid hl4; have C4 := Lib.hid hc4; have F4 := Lib.hid hf4.weak; have O4 := Lib.hid ho4; have Y4 := Lib.hid ha4
  clear b4 hl4 hc4 hf4 ho4 ha4
  have D4 : Hid (Below w.heap.size w w4) := b_then D3.out B4.out
  have s4 : w3.heap.size ≤ w4.heap.size := B4.out.size
  have E4 : Hid (fs4.map cn = fs2.map cn) := C4.out.trans C2.out.symm
  obtain rfl : n4 = n2 := by
    have h1 := congrArg List.length E4.out
    rw [List.length_map, List.length_map, L4.out, L2.out] at h1
    exact h1
  go_wp2_with fail
  refine (eqFloats_same _ _ _ _ _ fs4 fs2 _ L4.out E4.out (Nat.le_trans hb4 (by decide : 60 ≤ 1048576)) F4.out ((F2.out.keep B3.out).keep B4.out)).mono ?_
  rintro e w5 ⟨rfl, b5⟩
  have B5 := Lib.hid b5; clear b5
  have D5 : Hid (Below w.heap.size w w5) := b_then D4.out B5.out
  have s5 : w4.heap.size ≤ w5.heap.size := B5.out.size
  go_wp2_with fail
  refine (Sn.to_any A_0 n_0 c_0 p_0 _ Hl0.out kb0 (HT0.out.keep D5.out)).mono ?_
  rintro e w6 ⟨rfl, m6⟩
  have M6 := Lib.hid m6; clear m6
  have B6 : Hid (Below w5.heap.size w5 w6) := M6.out.2.2.2
  have f6 : w5.heap.size < w6.heap.size := M6.out.2.2.1
  have D6 : Hid (Below w.heap.size w w6) := b_then D5.out B6.out
  have s6 : w5.heap.size ≤ w6.heap.size := B6.out.size
  go_wp2_with fail
  refine (Sn.eq_any _ _ _ _ _ p_0 p_0 _ Hl0.out rfl kb0 (((M3.out.l.keep B4.out).keep B5.out).keep B6.out) M6.out.l).mono ?_
  rintro e w7 ⟨rfl, b7⟩
  have B7 := Lib.hid b7; clear b7
  have D7 : Hid (Below w.heap.size w w7) := b_then D6.out B7.out
  have s7 : w6.heap.size ≤ w7.heap.size := B7.out.size
  go_wp2_with fail
  refine (Sn.mark_any _ _ _ _ _ kb0 (by omega) (by omega) (there_of_block (there_of_block (there_of_block (there_of_block M3.out.1 (B4.out.block _ (by omega))) (B5.out.block _ (by omega))) (B6.out.block _ (by omega))) (B7.out.block _ (by omega)))).mono ?_
  rintro e w8 ⟨rfl, b8⟩
  have B8 := Lib.hid b8; clear b8
  have S8 := Lib.hid B8.out.1
  have s8 : w7.heap.size ≤ w8.heap.size := by rw [S8.out]; exact Nat.le_refl _
  have t8 : w8.heap.size ≤ w7.heap.size := by rw [S8.out]; exact Nat.le_refl _
  have D8 : Hid (Below w.heap.size w w8) := D7.out.trans (B8.out.2.2 _ (fun a h => by cases h; show w.heap.size ≤ w2.heap.size; omega))
  go_wp2_with fail
  refine (eqFloats_same _ _ _ _ _ fs4 fs2 _ L4.out E4.out (Nat.le_trans hb4 (by decide : 60 ≤ 1048576)) ((((F4.out.keep B5.out).keep B6.out).keep B7.out).mb0 B8.out (fun a a' ha ha' => by cases ha'; have := (Y4.out a ha).1; have := (Y4.out a ha).2; show w2.heap.size ≠ a.block; omega)) ((((((F2.out.keep B3.out).keep B4.out).keep B5.out).keep B6.out).keep B7.out).mb0 B8.out (fun a a' ha ha' => by cases ha'; have := (Y2.out a ha).1; have := (Y2.out a ha).2; show w2.heap.size ≠ a.block; omega))).mono ?_
  rintro e w9 ⟨rfl, b9⟩
  have B9 := Lib.hid b9; clear b9
  have D9 : Hid (Below w.heap.size w w9) := b_then D8.out B9.out
  have s9 : w8.heap.size ≤ w9.heap.size := B9.out.size
  have Z10 : Hid (0 < n4 → ∃ b, A4 = some ⟨b, 0, none⟩ ∧ w9.there b 0 n4) := fun h0 => by
    obtain ⟨b, he, ht⟩ := O4.out h0
    have hy1 : w3.heap.size ≤ b := (Y4.out _ he).1
    have hy2 : b < w4.heap.size := (Y4.out _ he).2
    exact ⟨b, he, (there_of_block (there_of_block (there_of_block (there_of_block (there_of_block ht (B5.out.block _ (by omega))) (B6.out.block _ (by omega))) (B7.out.block _ (by omega))) (B8.out.2.1 _ (fun a h => by cases h; show w2.heap.size ≠ _; omega))) (B9.out.block _ (by omega)))⟩
  go_wp2_with fail
  refine (markFloats_any A4 _ _ 1 _ (Nat.le_trans hb4 (by decide : 60 ≤ 1048576)) (by omega) Z10.out).mono ?_
  rintro e w10 ⟨rfl, b10, mk10⟩
  have B10 := Lib.hid b10; have K10 := Lib.hid mk10; clear b10 mk10
  have S10 := Lib.hid B10.out.1
  have s10 : w9.heap.size ≤ w10.heap.size := by rw [S10.out]; exact Nat.le_refl _
  have t10 : w10.heap.size ≤ w9.heap.size := by rw [S10.out]; exact Nat.le_refl _
  have D10 : Hid (Below w.heap.size w w10) := D9.out.trans (B10.out.2.2 _ (fun a h => by have := (Y4.out a h).1; omega))
  go_wp2_with fail
  refine (heldFloats_any A4 _ _ 1 _ (Nat.le_trans hb4 (by decide : 60 ≤ 1048576)) (by omega) K10.out).mono ?_
  rintro e wx ⟨rfl, rfl⟩
  go_wp2_with fail
  refine (Sn.to_any A_0 n_0 c_0 p_0 _ Hl0.out kb0 (HT0.out.keep D10.out)).mono ?_
  rintro e w11 ⟨rfl, m11⟩
  have M11 := Lib.hid m11; clear m11
  have B11 : Hid (Below w10.heap.size w10 w11) := M11.out.2.2.2
  have f11 : w10.heap.size < w11.heap.size := M11.out.2.2.1
  have D11 : Hid (Below w.heap.size w w11) := b_then D10.out B11.out
  have s11 : w10.heap.size ≤ w11.heap.size := B11.out.size
  go_wp2_with fail
  refine (implShare_any _ _ _ p_0 x1 x2 _ Hl0.out kb0 M11.out.l).mono ?_
  rintro e w12 ⟨A12, n12, c12, fs12, rfl, hl12, hc12, hf12, ho12, ha12, b12⟩
  have hb12 : n12 ≤ 60 := by
    have hx := congrArg List.length hc12
    rw [List.length_map, hl12] at hx
    rw [hx]
    exact shT_le _ _ _
  have B12 := Lib.hid b12; have L12 := Lib.hid hl12; have C12 := Lib.hid hc12; have F12 := Lib.hid hf12.weak; have O12 := Lib.hid ho12; have Y12 := Lib.hid ha12
  clear b12 hl12 hc12 hf12 ho12 ha12
  have D12 : Hid (Below w.heap.size w w12) := b_then D11.out B12.out
  have s12 : w11.heap.size ≤ w12.heap.size := B12.out.size
  have E12 : Hid (fs12.map cn = fs2.map cn) := C12.out.trans C2.out.symm
  obtain rfl : n12 = n4 := by
    have h1 := congrArg List.length E12.out
    rw [List.length_map, List.length_map, L12.out, L2.out] at h1
    exact h1
  go_wp2_with fail
  refine (eqFloats_same _ _ _ _ _ fs12 fs2 _ L12.out E12.out (Nat.le_trans hb12 (by decide : 60 ≤ 1048576)) F12.out ((((((((((F2.out.keep B3.out).keep B4.out).keep B5.out).keep B6.out).keep B7.out).mb0 B8.out (fun a a' ha ha' => by cases ha'; have := (Y2.out a ha).1; have := (Y2.out a ha).2; show w2.heap.size ≠ a.block; omega)).keep B9.out).mb0 B10.out (fun a a' ha ha' => by have := (Y4.out a' ha').1; have := (Y4.out a' ha').2; have := (Y2.out a ha).1; have := (Y2.out a ha).2; omega)).keep B11.out).keep B12.out)).mono ?_
  rintro e w13 ⟨rfl, b13⟩
  have B13 := Lib.hid b13; clear b13
  have D13 : Hid (Below w.heap.size w w13) := b_then D12.out B13.out
  have s13 : w12.heap.size ≤ w13.heap.size := B13.out.size
  have KK : Hid (0 < n12 → ∃ b, A4 = some ⟨b, 0, none⟩ ∧ ∀ i : Nat, i < n12 → w13.cell? ⟨b, i, none⟩ = some (.float .f32 (floatOfInt .f32 (1 + i)))) := fun h0 => by
    obtain ⟨b, he, hcs⟩ := K10.out h0
    have hy2 : b < w4.heap.size := (Y4.out _ he).2
    exact ⟨b, he, fun i hi => (World.cell?_of_block (a := ⟨b, i, none⟩) (B13.out.block b (by omega))).trans ((World.cell?_of_block (a := ⟨b, i, none⟩) (B12.out.block b (by omega))).trans ((World.cell?_of_block (a := ⟨b, i, none⟩) (B11.out.block b (by omega))).trans (hcs i hi)))⟩
  go_wp2_with fail
  refine (heldFloats_any A4 _ _ 1 _ (Nat.le_trans hb12 (by decide : 60 ≤ 1048576)) (by omega) KK.out).mono ?_
  rintro e wx ⟨rfl, rfl⟩
  go_wp2
  go_ret
  exact ⟨rfl, D13.out⟩
end Go.Proofs.Ytagjkagfnfonpab
