/-
  The convergents of a number: both functions, and the law.
-/
import Derived.Test.YtjkgiknklkfipaaCvc
namespace Go.Proofs.Ytjkgiknklkfipaa
open Go.RowKit Go.ChangeShapes Go.WideShapes Go.Deep
attribute [local go_sem ↓] Go.wp_at_zero Go.wp_at_succ
set_option linter.unusedVariables false
set_option linter.unusedSimpArgs false
set_option maxRecDepth 100000
def mostB (a : Nat) (m : Int) : Bool := tgB a && (decide (1 ≤ m) && decide (m ≤ 1000000))
def mostK (a : Nat) (m : Int) : Int := if mostB a m then 0 else 2
theorem mostB_is {a : Nat} {m : Int} (h : mostB a m = true) : tgB a = true ∧ 1 ≤ m ∧ m ≤ 1000000 := by
  unfold mostB at h
  simpa [Bool.and_eq_true] using h
theorem fracErr_any (a : Nat) (m : Int) (w : World) : Calls Try.prog 48 #[.float .f32 a, .int .i64 m] w fun e w' => e = .returned (.int .i64 (mostK a m)) ∧ w = w' := by
  unfold mostK mostB
  have hT0 := isTarget_any a w
  cases h : tgB a
  · have hT := Lib.hid (fun w => (by have := isTarget_any a w; rw [h] at this; exact this : Calls Try.prog 45 #[.float .f32 a] w fun e w' => e = .returned (.bool false) ∧ w = w'))
    clear hT0 h
    go_enter Try.func48, Try.ntmps48
    go_wp2_with (go_at_call 45; refine (hT.out _).mono ?_; rintro e w1 ⟨rfl, rfl⟩)
    go_ret
    exact ⟨rfl, rfl⟩
  · have hT := Lib.hid (fun w => (by have := isTarget_any a w; rw [h] at this; exact this : Calls Try.prog 45 #[.float .f32 a] w fun e w' => e = .returned (.bool true) ∧ w = w'))
    clear hT0 h
    by_cases h1 : m < 1
    · rw [show (decide (1 ≤ m)) = false from decide_eq_false (by omega)]
      go_enter Try.func48, Try.ntmps48
      go_wp2_with (go_at_call 45; refine (hT.out _).mono ?_; rintro e w1 ⟨rfl, rfl⟩)
      go_ret
      exact ⟨rfl, rfl⟩
    · by_cases h2 : 1000000 < m
      · rw [show (decide (m ≤ 1000000)) = false from decide_eq_false (by omega), show (decide (1 ≤ m)) = true from decide_eq_true (by omega)]
        go_enter Try.func48, Try.ntmps48
        go_wp2_with (go_at_call 45; refine (hT.out _).mono ?_; rintro e w1 ⟨rfl, rfl⟩)
        go_ret
        exact ⟨rfl, rfl⟩
      · rw [show (decide (m ≤ 1000000)) = true from decide_eq_true (by omega), show (decide (1 ≤ m)) = true from decide_eq_true (by omega)]
        go_enter Try.func48, Try.ntmps48
        go_wp2_with (go_at_call 45; refine (hT.out _).mono ?_; rintro e w1 ⟨rfl, rfl⟩)
        go_ret
        exact ⟨rfl, rfl⟩
theorem l00InC_any (x a b : Int) (w : World) : Calls Try.prog 88 #[.int .i64 x, .int .i64 a, .int .i64 b] w fun e w' => e = .returned (.bool (decide (a ≤ x) && decide (x ≤ b))) ∧ w = w' := by
  by_cases h1 : a ≤ x
  · by_cases h2 : x ≤ b
    · rw [decide_eq_true h1, decide_eq_true h2]
      have h3 : ¬ x < a := by omega
      have h4 : ¬ b < x := by omega
      go_enter Try.func88, Try.ntmps88
      go_wp2
      go_ret
      exact ⟨rfl, rfl⟩
    · rw [decide_eq_true h1, decide_eq_false h2]
      have h3 : ¬ x < a := by omega
      have h4 : b < x := by omega
      go_enter Try.func88, Try.ntmps88
      go_wp2
      go_ret
      exact ⟨rfl, rfl⟩
  · rw [decide_eq_false h1]
    have h3 : x < a := by omega
    go_enter Try.func88, Try.ntmps88
    go_wp2
    go_ret
    exact ⟨rfl, rfl⟩
theorem l05Most_any (a : Nat) (m : Int) (w : World) : Calls Try.prog 50 #[.float .f32 a, .int .i64 m] w fun e w' => e = .returned (.int .i64 (mostK a m)) ∧ w = w' := by
  unfold mostK mostB
  have hI := Lib.hid (fun w => l00InC_any m 1 1000000 w)
  obtain ⟨t, ht⟩ : ∃ t, (decide (1 ≤ m) && decide (m ≤ 1000000)) = t := ⟨_, rfl⟩
  rw [ht] at hI ⊢
  clear ht
  cases h : tgB a
  · have hT := Lib.hid (fun w => (by have := l05Target_any a w; rw [h] at this; exact this : Calls Try.prog 44 #[.float .f32 a] w fun e w' => e = .returned (.bool false) ∧ w = w'))
    clear h
    go_enter Try.func50, Try.ntmps50
    go_wp2_with (go_at_call 44; refine (hT.out _).mono ?_; rintro e w1 ⟨rfl, rfl⟩)
    go_ret
    exact ⟨rfl, rfl⟩
  · have hT := Lib.hid (fun w => (by have := l05Target_any a w; rw [h] at this; exact this : Calls Try.prog 44 #[.float .f32 a] w fun e w' => e = .returned (.bool true) ∧ w = w'))
    clear h
    cases t
    all_goals
      go_enter Try.func50, Try.ntmps50
      go_wp2_with (first | (go_at_call 44; refine (hT.out _).mono ?_; rintro e w1 ⟨rfl, rfl⟩) | (go_at_call 88; refine (hI.out _).mono ?_; rintro e w1 ⟨rfl, rfl⟩))
      go_ret
      exact ⟨rfl, rfl⟩
def cvP (a : Nat) (m : Int) : List Fr := if mostB a m then cvA a m.toNat else []
theorem cvP_len (a : Nat) (m : Int) : (cvP a m).length ≤ 40 := by
  unfold cvP
  split
  · exact cvL_len 40 _ _ _ _ _ _ _
  · simp
set_option maxHeartbeats 2000000 in
theorem implConvOf_any (a : Nat) (m : Int) (ha : a < 4294967296) (w : World) : Calls Try.prog 12 #[.float .f32 a, .int .i64 m] w (RFr (cvP a m) (mostK a m) w) := by
  have hF := Lib.hid (fun w => fracErr_any a m w)
  unfold cvP
  cases h : mostB a m
  · have hk : mostK a m = 2 := by unfold mostK; rw [h]; rfl
    rw [hk] at hF ⊢
    clear h hk
    go_enter Try.func12, Try.ntmps12
    go_wp2_with (go_at_call 48; refine (hF.out _).mono ?_; rintro e w1 ⟨rfl, rfl⟩)
    go_ret2
    exact ⟨_, rfl, own_noneF _ _, Below.refl _ _⟩
  · have hk : mostK a m = 0 := by unfold mostK; rw [h]; rfl
    rw [hk] at hF ⊢
    obtain ⟨h1, h2, h3⟩ := mostB_is h
    have hE := Lib.hid (fun w => implExact_any a ha h1 w)
    have hC := Lib.hid (fun w => implConv_any a m.toNat ha h1 (by omega) w)
    rw [Int.toNat_of_nonneg (by omega)] at hC
    rw [if_pos rfl]
    clear h hk h1 h2 h3 ha
    generalize cvA a m.toNat = R at *
    go_enter Try.func12, Try.ntmps12
    go_wp2_with (first | (go_at_call 48; refine (hF.out _).mono ?_; rintro e w1 ⟨rfl, rfl⟩) | (go_at_call 46; refine (hE.out _).mono ?_; rintro e w1 ⟨rfl, b1⟩) | (go_at_call 49; refine (hC.out _).mono ?_; rintro e w2 ⟨v, rfl, o2, b2⟩))
    go_ret2
    exact ⟨_, rfl, own_more o2 b1.size, b_then b1 b2⟩
set_option maxHeartbeats 2000000 in
theorem specConvOf_any (a : Nat) (m : Int) (ha : a < 4294967296) (w : World) : Calls Try.prog 13 #[.float .f32 a, .int .i64 m] w (RFr (cvP a m) (mostK a m) w) := by
  have hF := Lib.hid (fun w => l05Most_any a m w)
  unfold cvP
  cases h : mostB a m
  · have hk : mostK a m = 2 := by unfold mostK; rw [h]; rfl
    rw [hk] at hF ⊢
    clear h hk
    go_enter Try.func13, Try.ntmps13
    go_wp2_with (go_at_call 50; refine (hF.out _).mono ?_; rintro e w1 ⟨rfl, rfl⟩)
    go_ret2
    exact ⟨_, rfl, own_empty _ _ _ _ (Nat.le_refl _), b_alloc (Below.refl _ _) _⟩
  · have hk : mostK a m = 0 := by unfold mostK; rw [h]; rfl
    rw [hk] at hF ⊢
    obtain ⟨h1, h2, h3⟩ := mostB_is h
    have hC := Lib.hid (fun w => specConv_any a m.toNat ha h1 (by omega) w)
    rw [Int.toNat_of_nonneg (by omega)] at hC
    rw [if_pos rfl]
    clear h hk h1 h2 h3 ha
    generalize cvA a m.toNat = R at *
    go_enter Try.func13, Try.ntmps13
    go_wp2_with (first | (go_at_call 50; refine (hF.out _).mono ?_; rintro e w1 ⟨rfl, rfl⟩) | (go_at_call 51; refine (hC.out _).mono ?_; rintro e w2 ⟨v, rfl, o2, b2⟩))
    go_ret2
    exact ⟨_, rfl, o2, b2⟩
end Go.Proofs.Ytjkgiknklkfipaa
