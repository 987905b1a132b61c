/-
  The convergents of a number: both functions, and the law.
-/
import Derived.Test.YtdbcblfinflieaaCvc
namespace Go.Proofs.Ytdbcblfinflieaa
open Go.RowKit Go.ChangeShapes Go.WideShapes Go.Deep
attribute [local go_sem ↓] Go.wp_at_zero Go.wp_at_succ
set_option linter.unusedVariables false
set_option linter.unusedSimpArgs false
set_option maxRecDepth 100000
def mostB (a : Nat) (m : Int) : Bool := tgB a && (decide (1 ≤ m) && decide (m ≤ 1000000))
def mostK (a : Nat) (m : Int) : Int := if mostB a m then 0 else 2
theorem mostB_is {a : Nat} {m : Int} (h : mostB a m = true) : tgB a = true ∧ 1 ≤ m ∧ m ≤ 1000000 := by
  unfold mostB at h
  simpa [Bool.and_eq_true] using h
theorem fracErr_any (a : Nat) (m : Int) (w : World) : Calls Try.prog 50 #[.float .f32 a, .int .i64 m] w fun e w' => e = .returned (.int .i64 (mostK a m)) ∧ w = w' := by
  unfold mostK mostB
  have hT0 := isTarget_any a w
  cases h : tgB a
  · have hT := Lib.hid (fun w => (by have := isTarget_any a w; rw [h] at this; exact this : Calls Try.prog 60 #[.float .f32 a] w fun e w' => e = .returned (.bool false) ∧ w = w'))
    clear hT0 h
    go_enter Try.func50, Try.ntmps50
    go_wp2_with (go_at_call 60; refine (hT.out _).mono ?_; rintro e w1 ⟨rfl, rfl⟩)
    go_ret
    exact ⟨rfl, rfl⟩
  · have hT := Lib.hid (fun w => (by have := isTarget_any a w; rw [h] at this; exact this : Calls Try.prog 60 #[.float .f32 a] w fun e w' => e = .returned (.bool true) ∧ w = w'))
    clear hT0 h
    by_cases h1 : m < 1
    · rw [show (decide (1 ≤ m)) = false from decide_eq_false (by omega)]
      go_enter Try.func50, Try.ntmps50
      go_wp2_with (go_at_call 60; refine (hT.out _).mono ?_; rintro e w1 ⟨rfl, rfl⟩)
      go_ret
      exact ⟨rfl, rfl⟩
    · by_cases h2 : 1000000 < m
      · rw [show (decide (m ≤ 1000000)) = false from decide_eq_false (by omega), show (decide (1 ≤ m)) = true from decide_eq_true (by omega)]
        go_enter Try.func50, Try.ntmps50
        go_wp2_with (go_at_call 60; refine (hT.out _).mono ?_; rintro e w1 ⟨rfl, rfl⟩)
        go_ret
        exact ⟨rfl, rfl⟩
      · rw [show (decide (m ≤ 1000000)) = true from decide_eq_true (by omega), show (decide (1 ≤ m)) = true from decide_eq_true (by omega)]
        go_enter Try.func50, Try.ntmps50
        go_wp2_with (go_at_call 60; refine (hT.out _).mono ?_; rintro e w1 ⟨rfl, rfl⟩)
        go_ret
        exact ⟨rfl, rfl⟩
theorem l00InC_any (x a b : Int) (w : World) : Calls Try.prog 84 #[.int .i64 x, .int .i64 a, .int .i64 b] w fun e w' => e = .returned (.bool (decide (a ≤ x) && decide (x ≤ b))) ∧ w = w' := by
  by_cases h1 : a ≤ x
  · by_cases h2 : x ≤ b
    · rw [decide_eq_true h1, decide_eq_true h2]
      have h3 : ¬ x < a := by omega
      have h4 : ¬ b < x := by omega
      go_enter Try.func84, Try.ntmps84
      go_wp2
      go_ret
      exact ⟨rfl, rfl⟩
    · rw [decide_eq_true h1, decide_eq_false h2]
      have h3 : ¬ x < a := by omega
      have h4 : b < x := by omega
      go_enter Try.func84, Try.ntmps84
      go_wp2
      go_ret
      exact ⟨rfl, rfl⟩
  · rw [decide_eq_false h1]
    have h3 : x < a := by omega
    go_enter Try.func84, Try.ntmps84
    go_wp2
    go_ret
    exact ⟨rfl, rfl⟩
theorem l05Most_any (a : Nat) (m : Int) (w : World) : Calls Try.prog 48 #[.float .f32 a, .int .i64 m] w fun e w' => e = .returned (.int .i64 (mostK a m)) ∧ w = w' := by
  unfold mostK mostB
  have hI := Lib.hid (fun w => l00InC_any m 1 1000000 w)
  obtain ⟨t, ht⟩ : ∃ t, (decide (1 ≤ m) && decide (m ≤ 1000000)) = t := ⟨_, rfl⟩
  rw [ht] at hI ⊢
  clear ht
  cases h : tgB a
  · have hT := Lib.hid (fun w => (by have := l05Target_any a w; rw [h] at this; exact this : Calls Try.prog 83 #[.float .f32 a] w fun e w' => e = .returned (.bool false) ∧ w = w'))
    clear h
    go_enter Try.func48, Try.ntmps48
    go_wp2_with (go_at_call 83; refine (hT.out _).mono ?_; rintro e w1 ⟨rfl, rfl⟩)
    go_ret
    exact ⟨rfl, rfl⟩
  · have hT := Lib.hid (fun w => (by have := l05Target_any a w; rw [h] at this; exact this : Calls Try.prog 83 #[.float .f32 a] w fun e w' => e = .returned (.bool true) ∧ w = w'))
    clear h
    cases t
    all_goals
      go_enter Try.func48, Try.ntmps48
      go_wp2_with (first | (go_at_call 83; refine (hT.out _).mono ?_; rintro e w1 ⟨rfl, rfl⟩) | (go_at_call 84; refine (hI.out _).mono ?_; rintro e w1 ⟨rfl, rfl⟩))
      go_ret
      exact ⟨rfl, rfl⟩
def cvP (a : Nat) (m : Int) : List Fr := if mostB a m then cvA a m.toNat else []
theorem cvP_len (a : Nat) (m : Int) : (cvP a m).length ≤ 40 := by
  unfold cvP
  split
  · exact cvL_len 40 _ _ _ _ _ _ _
  · simp
set_option maxHeartbeats 2000000 in
theorem implConvOf_any (a : Nat) (m : Int) (ha : a < 4294967296) (w : World) : Calls Try.prog 14 #[.float .f32 a, .int .i64 m] w (RFr (cvP a m) (mostK a m) w) := by
  have hF := Lib.hid (fun w => fracErr_any a m w)
  unfold cvP
  cases h : mostB a m
  · have hk : mostK a m = 2 := by unfold mostK; rw [h]; rfl
    rw [hk] at hF ⊢
    clear h hk
    go_enter Try.func14, Try.ntmps14
    go_wp2_with (go_at_call 50; refine (hF.out _).mono ?_; rintro e w1 ⟨rfl, rfl⟩)
    go_ret2
    exact ⟨_, rfl, own_noneF _ _, Below.refl _ _⟩
  · have hk : mostK a m = 0 := by unfold mostK; rw [h]; rfl
    rw [hk] at hF ⊢
    obtain ⟨h1, h2, h3⟩ := mostB_is h
    have hE := Lib.hid (fun w => implExact_any a ha h1 w)
    have hC := Lib.hid (fun w => implConv_any a m.toNat ha h1 (by omega) w)
    rw [Int.toNat_of_nonneg (by omega)] at hC
    rw [if_pos rfl]
    clear h hk h1 h2 h3 ha
    generalize cvA a m.toNat = R at *
    go_enter Try.func14, Try.ntmps14
    go_wp2_with (first | (go_at_call 50; refine (hF.out _).mono ?_; rintro e w1 ⟨rfl, rfl⟩) | (go_at_call 51; refine (hE.out _).mono ?_; rintro e w1 ⟨rfl, b1⟩) | (go_at_call 52; refine (hC.out _).mono ?_; rintro e w2 ⟨v, rfl, o2, b2⟩))
    go_ret2
    exact ⟨_, rfl, own_more o2 b1.size, b_then b1 b2⟩
set_option maxHeartbeats 2000000 in
theorem specConvOf_any (a : Nat) (m : Int) (ha : a < 4294967296) (w : World) : Calls Try.prog 13 #[.float .f32 a, .int .i64 m] w (RFr (cvP a m) (mostK a m) w) := by
  have hF := Lib.hid (fun w => l05Most_any a m w)
  unfold cvP
  cases h : mostB a m
  · have hk : mostK a m = 2 := by unfold mostK; rw [h]; rfl
    rw [hk] at hF ⊢
    clear h hk
    go_enter Try.func13, Try.ntmps13
    go_wp2_with (go_at_call 48; refine (hF.out _).mono ?_; rintro e w1 ⟨rfl, rfl⟩)
    go_ret2
    exact ⟨_, rfl, own_empty _ _ _ _ (Nat.le_refl _), b_alloc (Below.refl _ _) _⟩
  · have hk : mostK a m = 0 := by unfold mostK; rw [h]; rfl
    rw [hk] at hF ⊢
    obtain ⟨h1, h2, h3⟩ := mostB_is h
    have hC := Lib.hid (fun w => specConv_any a m.toNat ha h1 (by omega) w)
    rw [Int.toNat_of_nonneg (by omega)] at hC
    rw [if_pos rfl]
    clear h hk h1 h2 h3 ha
    generalize cvA a m.toNat = R at *
    go_enter Try.func13, Try.ntmps13
    go_wp2_with (first | (go_at_call 48; refine (hF.out _).mono ?_; rintro e w1 ⟨rfl, rfl⟩) | (go_at_call 49; refine (hC.out _).mono ?_; rintro e w2 ⟨v, rfl, o2, b2⟩))
    go_ret2
    exact ⟨_, rfl, o2, b2⟩
set_option maxHeartbeats 4000000 in
theorem walk_FnExactConvergentsOf (a : Nat) (wa : (Lit.float .f32 a).wf = true) (m : Int) (wm : (Lit.int .i64 m).wf = true) (w : World) :
    Calls Try.prog 3 #[.float .f32 a, .int .i64 m] w fun e w' => e = .returned (.bool true) ∧ Below w.heap.size w w' := by
  have ha : a < 4294967296 := by simpa [Lit.wf] using wa
  have S1 := Lib.hid (fun w => specConvOf_any a m ha w)
  have S2 := Lib.hid (fun w => implConvOf_any a m ha w)
  have hlen := cvP_len a m
  clear wa wm ha
  generalize cvP a m = R at *
  generalize mostK a m = K at *
  obtain ⟨n, hn⟩ : ∃ n, R.length = n := ⟨_, rfl⟩
  have Hn := Lib.hid hn
  rw [hn] at hlen
  clear hn
  go_enter Try.func3, Try.ntmps3
  go_wp2_with fail
  refine (S1.out _).mono ?_
  rintro e w1 h1
  obtain ⟨A1, c1, rfl, l1, y1, _, b1⟩ := h1.facts
  rw [Hn.out]
  have L1 := Lib.hid l1; have Y1 := Lib.hid y1; have B1 := Lib.hid b1
  clear l1 y1 b1 h1
  go_wp2_with fail
  refine (S2.out _).mono ?_
  rintro e w2 h2
  obtain ⟨A2, c2, rfl, l2, y2, t2, b2⟩ := h2.facts
  rw [Hn.out] at t2 ⊢
  have L2 := Lib.hid l2; have Y2 := Lib.hid y2; have T2 := Lib.hid t2; have B2 := Lib.hid b2
  have D2 : Hid (Below w.heap.size w w2) := b_then B1.out B2.out
  have L12 := Lib.hid (L1.out.keep B2.out)
  have s1 := B1.out.size; have s2 := B2.out.size
  clear l2 y2 t2 b2 h2
  go_wp2_with fail
  refine (Fr.eq_any _ _ _ _ _ R R _ Hn.out rfl (by omega) L2.out L12.out).mono ?_
  rintro e w3 ⟨rfl, b3⟩
  have B3 := Lib.hid b3; have s3 := b3.size
  have D3 : Hid (Below w.heap.size w w3) := b_then D2.out B3.out
  clear b3
  have Z3 : Hid (0 < n → ∃ b, A2 = some ⟨b, 0, none⟩ ∧ b < w3.heap.size ∧ w3.there b 0 (n * 2)) := Lib.hid fun h0 => by
    obtain ⟨b, e, ht⟩ := T2.out h0
    have hy : b < w2.heap.size := (Y2.out _ e).2
    exact ⟨b, e, by omega, there_of_block ht (B3.out.block b hy)⟩
  go_wp2_with fail
  refine (markFrR_any A2 n _ _ (by omega) Z3.out).mono ?_
  rintro e w4 ⟨rfl, b4, mk⟩
  have B4 := Lib.hid b4; have MK := Lib.hid mk
  have S4 := Lib.hid b4.1
  have f4 : w3.heap.size ≤ w4.heap.size := by rw [S4.out]; exact Nat.le_refl _
  clear b4 mk
  have D4 : Hid (Below w.heap.size w w4) := D3.out.trans (B4.out.2.2 _ (fun a h => by have := (Y2.out a h).1; omega))
  have L14 : Hid (Fr.L w4 w4.heap.size A1 R) := (L12.out.keep B3.out).mb B4.out (fun a a' ha ha' => by have := (Y2.out a' ha').1; have := (Y1.out a ha).2; omega)
  go_wp2_with fail
  refine (heldFrR_any A2 n _ _ (by omega) MK.out).mono ?_
  rintro e w5 ⟨rfl, b5⟩
  have B5 := Lib.hid b5; have f5 := b5.size; clear b5
  have D5 : Hid (Below w.heap.size w w5) := b_then D4.out B5.out
  have MK5 := Lib.hid (MK.out.keep B5.out)
  have L15 := Lib.hid (L14.out.keep B5.out)
  go_wp2_with fail
  refine (S2.out _).mono ?_
  rintro e w6 h6
  obtain ⟨A6, c6, rfl, l6, y6, _, b6⟩ := h6.facts
  rw [Hn.out]
  have L6 := Lib.hid l6; have B6 := Lib.hid b6
  have D6 : Hid (Below w.heap.size w w6) := b_then D5.out B6.out
  have MK6 := Lib.hid (MK5.out.keep B6.out)
  have L16 := Lib.hid (L15.out.keep B6.out)
  clear l6 y6 b6 h6
  go_wp2_with fail
  refine (Fr.eq_any _ _ _ _ _ R R _ Hn.out rfl (by omega) L6.out L16.out).mono ?_
  rintro e w7 ⟨rfl, b7⟩
  have MK7 := Lib.hid (MK6.out.keep b7)
  have D7 : Hid (Below w.heap.size w w7) := b_then D6.out b7
  clear b7
  go_wp2_with fail
  refine (heldFrR_any A2 n _ _ (by omega) MK7.out).mono ?_
  rintro e w8 ⟨rfl, b8⟩
  have D8 : Hid (Below w.heap.size w w8) := b_then D7.out b8
  clear b8
  go_wp2
  go_ret
  exact ⟨rfl, D8.out⟩
end Go.Proofs.Ytdbcblfinflieaa
