/-
  Walk of 'PlaceOf'.
-/
import Derived.Test.YtdpgfbmelnmkdaaCpb
namespace Go.Proofs.Ytdpgfbmelnmkdaa
open Go.RowKit Go.ChangeShapes Go.WideShapes Go.Deep
attribute [local go_sem ↓] Go.wp_at_zero Go.wp_at_succ
set_option linter.unusedVariables false
set_option linter.unusedSimpArgs false
set_option maxRecDepth 100000
def placeK (a : Int) : Int := if 0 ≤ a ∧ a ≤ 7 then 0 else 2
def placeX (a : Int) : Nat := if 0 ≤ a ∧ a ≤ 7 then pcA a else 0
def placeY (a : Int) : Nat := if 0 ≤ a ∧ a ≤ 7 then pcB a else 0
theorem specPlaceOf_any (a : Int) (w : World) : Calls Try.prog 4 #[.int .i64 a] w (RV (.tuple #[.complex .f32 (placeX a) (placeY a), .int .i64 (placeK a)]) w) := by
  unfold placeX placeY placeK
  by_cases h : 0 ≤ a ∧ a ≤ 7
  · rw [if_pos h, if_pos h, if_pos h]
    obtain ⟨h0, h7⟩ := h
    go_enter Try.func4, Try.ntmps4
    go_wp2_with (first | (go_at_call 8; refine (l07Place_any a h0 h7 _).mono ?_; rintro e w1 ⟨rfl, b1⟩) | go_in)
    go_ret2
    refine ⟨rfl, ?_⟩
    (repeat (first | exact Below.refl _ _ | refine b_drewN ?_ _ | refine b_drew ?_ | refine b_alloc ?_ _ | refine b_set ?_ (by simp) _ _ | refine b_then ?_ (by assumption)))
  · rw [if_neg h, if_neg h, if_neg h]
    by_cases h0 : 0 ≤ a
    · have h7 : ¬ a ≤ 7 := fun k => h ⟨h0, k⟩
      clear h
      go_enter Try.func4, Try.ntmps4
      go_wp2
      go_ret2
      refine ⟨rfl, ?_⟩
      (repeat (first | exact Below.refl _ _ | refine b_drewN ?_ _ | refine b_drew ?_ | refine b_alloc ?_ _ | refine b_set ?_ (by simp) _ _ | refine b_then ?_ (by assumption)))
    · clear h
      go_enter Try.func4, Try.ntmps4
      go_wp2
      go_ret2
      refine ⟨rfl, ?_⟩
      (repeat (first | exact Below.refl _ _ | refine b_drewN ?_ _ | refine b_drew ?_ | refine b_alloc ?_ _ | refine b_set ?_ (by simp) _ _ | refine b_then ?_ (by assumption)))
theorem implPlaceOf_any (a : Int) (w : World) : Calls Try.prog 5 #[.int .i64 a] w (RV (.tuple #[.complex .f32 (placeX a) (placeY a), .int .i64 (placeK a)]) w) := by
  unfold placeX placeY placeK
  by_cases h : 0 ≤ a ∧ a ≤ 7
  · rw [if_pos h, if_pos h, if_pos h]
    obtain ⟨h0, h7⟩ := h
    have g0 : ¬ a < 0 := by omega
    have g8 : ¬ a ≥ 8 := by omega
    go_enter Try.func5, Try.ntmps5
    go_wp2_with (first | (go_at_call 9; refine (circle_any _).mono ?_; rintro e w1 ⟨rfl, b1⟩) | (go_at_call 10; refine (against_any a h0 h7 _).mono ?_; rintro e w1 ⟨rfl, b1⟩) | (go_at_call 11; refine (number_any _ _ _).mono ?_; rintro e w1 ⟨rfl, b1⟩))
    go_ret2
    refine ⟨rfl, ?_⟩
    (repeat (first | exact Below.refl _ _ | refine b_drewN ?_ _ | refine b_drew ?_ | refine b_alloc ?_ _ | refine b_set ?_ (by simp) _ _ | refine b_then ?_ (by assumption)))
  · rw [if_neg h, if_neg h, if_neg h]
    by_cases h0 : 0 ≤ a
    · have h7 : a ≥ 8 := by rcases Int.lt_or_le a 8 with k | k; exact absurd ⟨h0, by omega⟩ h; exact k
      have g0 : ¬ a < 0 := by omega
      clear h
      go_enter Try.func5, Try.ntmps5
      go_wp2
      go_ret2
      refine ⟨rfl, ?_⟩
      (repeat (first | exact Below.refl _ _ | refine b_drewN ?_ _ | refine b_drew ?_ | refine b_alloc ?_ _ | refine b_set ?_ (by simp) _ _ | refine b_then ?_ (by assumption)))
    · have g0 : a < 0 := by omega
      clear h
      go_enter Try.func5, Try.ntmps5
      go_wp2
      go_ret2
      refine ⟨rfl, ?_⟩
      (repeat (first | exact Below.refl _ _ | refine b_drewN ?_ _ | refine b_drew ?_ | refine b_alloc ?_ _ | refine b_set ?_ (by simp) _ _ | refine b_then ?_ (by assumption)))
set_option maxHeartbeats 4000000 in
theorem walk_FnExactPlaceOf (a0 : Int) (w0 : (Lit.int .i64 a0).wf = true) (w : World) :
    Calls Try.prog 3 #[.int .i64 a0] w fun e w' => e = .returned (.bool true) ∧ Below w.heap.size w w' := by
  have q := fun w a b => run_wideC (P := Try.prog) w 22 26 a b (by rw [Try.underlying22]; rfl) Try.underlying26
  go_enter Try.func3, Try.ntmps3
  go_wp2_with (first | (go_at_call 4; refine (specPlaceOf_any _ _).mono ?_; rintro e w1 ⟨rfl, b1⟩) | (go_at_call 5; refine (implPlaceOf_any _ _).mono ?_; rintro e w1 ⟨rfl, b1⟩) | (go_at_call 6; refine (sc_cvt rfl rfl _ _ _ _ _).mono ?_; rintro e w1 ⟨rfl, rfl⟩))
  go_ret
  refine ⟨rfl, ?_⟩
  (repeat (first | exact Below.refl _ _ | refine b_drewN ?_ _ | refine b_drew ?_ | refine b_alloc ?_ _ | refine b_set ?_ (by simp) _ _ | refine b_then ?_ (by assumption)))
end Go.Proofs.Ytdpgfbmelnmkdaa
