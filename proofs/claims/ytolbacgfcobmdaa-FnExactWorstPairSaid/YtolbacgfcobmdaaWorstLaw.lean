/-
  The law of the pair with the greatest loss.
-/
import Derived.Test.YtolbacgfcobmdaaWorstI
namespace Go.Proofs.Ytolbacgfcobmdaa
open Go.RowKit Go.ChangeShapes Go.WideShapes Go.Deep
set_option linter.unusedVariables false
set_option linter.unusedSimpArgs false
theorem worst_cases {ps : List Pr} {e : Ending} (h : WorstE ps e) : (okTr ps = true ∧ ∃ j, IsWorst ps ps.length j ∧ e = .returned (.tuple #[.int .i64 (j : Int), .float .f32 (lossAt ps j), .int .i64 0])) ∨ (okTr ps = false ∧ e = .returned (.tuple #[.int .i64 0, .float .f32 0, .int .i64 1])) := by
  unfold WorstE at h
  rcases Bool.eq_false_or_eq_true (okTr ps) with h1 | h1
  · rw [if_pos h1] at h; exact .inl ⟨h1, h⟩
  · rw [if_neg (by rw [h1]; decide)] at h; exact .inr ⟨h1, h⟩
set_option maxRecDepth 100000 in
set_option maxHeartbeats 2000000 in
theorem walk_FnExactWorstPair (A : Option Addr) (n c : Nat) (ps : List Pr) (w : World) (h : PairsIn w A n c ps) :
    Calls Try.prog 3 #[.slice A n c] w fun e w' => e = .returned (.bool true) ∧ Below w.heap.size w w' := by
  obtain ⟨hl, hnc, hc, hT, hw⟩ := h
  have hnm : n ≤ maxLen := Nat.le_trans hnc hc
  have Hl := Lib.hid hl; clear hl
  have HT := Lib.hid hT; clear hT
  have Hw := Lib.hid hw; clear hw
  by_cases hn : 1048576 < n
  · go_enter Try.func3, Try.ntmps3
    go_wp2_with (go_at_call 9; refine (szTrain_any _ _ _ _ hnm).mono ?_; rintro e w1 ⟨rfl, rfl⟩; rw [if_pos hn])
    go_ret
    exact ⟨rfl, Below.refl _ _⟩
  · have hn' : n ≤ 1048576 := by omega
    go_enter Try.func3, Try.ntmps3
    go_wp2_with fail
    refine (szTrain_any _ _ _ _ hnm).mono ?_
    rintro e w1 ⟨rfl, rfl⟩
    rw [if_neg hn]
    go_wp2_with fail
    refine (toTrain_any A n c ps _ Hl.out hn' HT.out).mono ?_
    rintro e w1 ⟨rfl, m1⟩
    have M1 := Lib.hid m1; clear m1
    go_wp2_with fail
    refine (specWorst_any _ _ _ ps _ Hl.out hn' M1.out.tr Hw.out).mono ?_
    rintro e w2 ⟨he2, b2⟩
    have B2 := Lib.hid (bthen M1.out.below b2); clear b2
    rcases worst_cases he2 with ⟨hok, j, hj, rfl⟩ | ⟨hok, rfl⟩
    · have Hj := Lib.hid hj; have Hok := Lib.hid hok; clear hj hok he2
      have hnan : nan32 (lossAt ps j) = false := part_num (part_at Hok.out Hj.out.1)
      have q1 := fun w => run_wide (P := Try.prog) w 24 31 (lossAt ps j) (by rw [Try.underlying24]; rfl) Try.underlying31 hnan
      have Q3 := Lib.hid (wide_some hnan).2
      clear hnan
      go_wp2_with fail
      refine (toTrain_any A n c ps _ Hl.out hn' (HT.out.keep B2.out)).mono ?_
      rintro e w3 ⟨rfl, m3⟩
      have M3 := Lib.hid m3; clear m3
      have B3 := Lib.hid (bthen B2.out M3.out.below)
      go_wp2_with fail
      refine (implWorst_any _ _ _ ps _ Hl.out hn' M3.out.tr Hw.out).mono ?_
      rintro e w4 ⟨he4, b4⟩
      rcases worst_cases he4 with ⟨_, j', hj', rfl⟩ | ⟨hok, rfl⟩
      · obtain rfl : j' = j := hj'.uniq Hj.out
        clear he4 hj'
        have X4 := Lib.hid (M3.out.tr.keep b4)
        have B4 := Lib.hid (bthen B3.out b4); clear b4
        go_wp2_with fail
        refine (sameFloat_eq _ _ Q3.out).mono ?_
        rintro e w5 ⟨rfl, rfl⟩
        go_wp2_with fail
        refine (toTrain_any A n c ps _ Hl.out hn' (HT.out.keep B4.out)).mono ?_
        rintro e w6 ⟨rfl, m6⟩
        have M6 := Lib.hid m6; clear m6
        have B6 := Lib.hid (bthen B4.out M6.out.below)
        go_wp2_with fail
        refine (eqTrain_same _ _ _ _ _ ps _ Hl.out hn' (X4.out.keep M6.out.below) M6.out.tr).mono ?_
        rintro e w7 ⟨rfl, b7⟩
        have B7 := Lib.hid (bthen B6.out b7); clear b7
        go_wp2
        go_ret
        exact ⟨rfl, B7.out⟩
      · have := Hok.out
        rw [hok] at this
        cases this
    · have Hok := Lib.hid hok; clear hok he2
      have n0 : (FloatKind.f32.decode 0).isNaN = false := by decide +kernel
      have q1 := fun w => run_wide (P := Try.prog) w 24 31 0 (by rw [Try.underlying24]; rfl) Try.underlying31 n0
      have Q3 := Lib.hid (wide_some n0).2
      clear n0
      go_wp2_with fail
      refine (toTrain_any A n c ps _ Hl.out hn' (HT.out.keep B2.out)).mono ?_
      rintro e w3 ⟨rfl, m3⟩
      have M3 := Lib.hid m3; clear m3
      have B3 := Lib.hid (bthen B2.out M3.out.below)
      go_wp2_with fail
      refine (implWorst_any _ _ _ ps _ Hl.out hn' M3.out.tr Hw.out).mono ?_
      rintro e w4 ⟨he4, b4⟩
      rcases worst_cases he4 with ⟨hok, j', hj', rfl⟩ | ⟨hok, rfl⟩
      · have := Hok.out
        rw [hok] at this
        cases this
      · clear he4
        have X4 := Lib.hid (M3.out.tr.keep b4)
        have B4 := Lib.hid (bthen B3.out b4); clear b4
        go_wp2_with fail
        refine (sameFloat_eq _ _ Q3.out).mono ?_
        rintro e w5 ⟨rfl, rfl⟩
        go_wp2_with fail
        refine (toTrain_any A n c ps _ Hl.out hn' (HT.out.keep B4.out)).mono ?_
        rintro e w6 ⟨rfl, m6⟩
        have M6 := Lib.hid m6; clear m6
        have B6 := Lib.hid (bthen B4.out M6.out.below)
        go_wp2_with fail
        refine (eqTrain_same _ _ _ _ _ ps _ Hl.out hn' (X4.out.keep M6.out.below) M6.out.tr).mono ?_
        rintro e w7 ⟨rfl, b7⟩
        have B7 := Lib.hid (bthen B6.out b7); clear b7
        go_wp2
        go_ret
        exact ⟨rfl, B7.out⟩
end Go.Proofs.Ytolbacgfcobmdaa
