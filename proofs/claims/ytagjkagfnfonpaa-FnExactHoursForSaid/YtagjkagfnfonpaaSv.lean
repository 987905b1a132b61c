/-
  When rates, parts, sizes and stones are valid; the codes of a stone.
-/
import Derived.Test.YtagjkagfnfonpaaSk
import Derived.Test.YtagjkagfnfonpaaMc
namespace Go.Proofs.Ytagjkagfnfonpaa
open Go.RowKit Go.ChangeShapes Go.WideShapes Go.Deep
attribute [local go_sem ↓] Go.wp_at_zero Go.wp_at_succ
set_option linter.unusedVariables false
set_option linter.unusedSimpArgs false
def rtB (x : Nat) : Bool := oGe x 0 && oLe x 1149239296
def partB (x : Nat) : Bool := oGe x 0 && oLe x 1065353216
def okS (S : Sn) : Bool := rtB S.d && (rtB S.r && (rtB S.b && partB S.g))
theorem isRate_any (m : Nat) (w : World) : Calls Try.prog 16 #[.float .f32 m] w fun e w' => e = .returned (.bool (rtB m)) ∧ w = w' := by
  unfold rtB oGe oLe
  go_enter Try.func16, Try.ntmps16
  go_wp2
  · go_ret
    exact ⟨rfl, rfl⟩
  · rename_i h
    go_ret
    refine ⟨?_, rfl⟩
    simp at h
    simp [h]
theorem l04Rate_any (m : Nat) (w : World) : Calls Try.prog 44 #[.float .f32 m] w fun e w' => e = .returned (.bool (rtB m)) ∧ w = w' := by
  unfold rtB oGe oLe
  go_enter Try.func44, Try.ntmps44
  go_wp2
  · go_ret
    exact ⟨rfl, rfl⟩
  · rename_i h
    go_ret
    refine ⟨?_, rfl⟩
    simp at h
    simp [h]
theorem isPart_any (m : Nat) (w : World) : Calls Try.prog 46 #[.float .f32 m] w fun e w' => e = .returned (.bool (partB m)) ∧ w = w' := by
  unfold partB oGe oLe
  go_enter Try.func46, Try.ntmps46
  go_wp2
  · go_ret
    exact ⟨rfl, rfl⟩
  · rename_i h
    go_ret
    refine ⟨?_, rfl⟩
    simp at h
    simp [h]
theorem l01Part_any (m : Nat) (w : World) : Calls Try.prog 71 #[.float .f32 m] w fun e w' => e = .returned (.bool (partB m)) ∧ w = w' := by
  unfold partB oGe oLe
  go_enter Try.func71, Try.ntmps71
  go_wp2
  · go_ret
    exact ⟨rfl, rfl⟩
  · rename_i h
    go_ret
    refine ⟨?_, rfl⟩
    simp at h
    simp [h]
theorem isPlainSize_any (m : Nat) (w : World) : Calls Try.prog 58 #[.float .f32 m] w fun e w' => e = .returned (.bool (psB m)) ∧ w = w' := by
  unfold psB oGe oLe
  go_enter Try.func58, Try.ntmps58
  go_wp2
  · go_ret
    exact ⟨rfl, rfl⟩
  · rename_i h
    go_ret
    refine ⟨?_, rfl⟩
    simp at h
    simp [h]
theorem l03Amount_any (m : Nat) (w : World) : Calls Try.prog 60 #[.float .f32 m] w fun e w' => e = .returned (.bool (psB m)) ∧ w = w' := by
  unfold psB oGe oLe
  go_enter Try.func60, Try.ntmps60
  go_wp2
  · go_ret
    exact ⟨rfl, rfl⟩
  · rename_i h
    go_ret
    refine ⟨?_, rfl⟩
    simp at h
    simp [h]
theorem validStone_any (S : Sn) (w : World) : Calls Try.prog 19 #[.agg #[.float .f32 S.d, .float .f32 S.r, .float .f32 S.b, .float .f32 S.g]] w (RV (.bool (okS S)) w) := by
  unfold okS
  rcases Bool.eq_false_or_eq_true (rtB S.d) with h0 | h0 <;> rcases Bool.eq_false_or_eq_true (rtB S.r) with h1 | h1 <;> rcases Bool.eq_false_or_eq_true (rtB S.b) with h2 | h2 <;> rcases Bool.eq_false_or_eq_true (partB S.g) with h3 | h3
  all_goals
    simp only [h0, h1, h2, h3, Bool.and_true, Bool.and_false, Bool.true_and, Bool.false_and]
    go_enter Try.func19, Try.ntmps19
    go_wp2_with (first | (go_at_call 16; refine (isRate_any _ _).mono ?_; rintro e w1 ⟨rfl, rfl⟩) | (go_at_call 46; refine (isPart_any _ _).mono ?_; rintro e w1 ⟨rfl, rfl⟩))
    go_ret
    refine ⟨rfl, ?_⟩
    (repeat (first | exact Below.refl _ _ | refine b_drewN ?_ _ | refine b_drew ?_ | refine b_alloc ?_ _ | refine b_then ?_ (by assumption)))
theorem l04Ok_any (S : Sn) (w : World) : Calls Try.prog 45 #[.agg #[.float .f32 S.d, .float .f32 S.r, .float .f32 S.b, .float .f32 S.g]] w (RV (.bool (okS S)) w) := by
  unfold okS
  rcases Bool.eq_false_or_eq_true (rtB S.d) with h0 | h0 <;> rcases Bool.eq_false_or_eq_true (rtB S.r) with h1 | h1 <;> rcases Bool.eq_false_or_eq_true (rtB S.b) with h2 | h2 <;> rcases Bool.eq_false_or_eq_true (partB S.g) with h3 | h3
  all_goals
    simp only [h0, h1, h2, h3, Bool.and_true, Bool.and_false, Bool.true_and, Bool.false_and]
    go_enter Try.func45, Try.ntmps45
    go_wp2_with (first | (go_at_call 44; refine (l04Rate_any _ _).mono ?_; rintro e w1 ⟨rfl, rfl⟩) | (go_at_call 71; refine (l01Part_any _ _).mono ?_; rintro e w1 ⟨rfl, rfl⟩))
    go_ret
    refine ⟨rfl, ?_⟩
    (repeat (first | exact Below.refl _ _ | refine b_drewN ?_ _ | refine b_drew ?_ | refine b_alloc ?_ _ | refine b_then ?_ (by assumption)))
end Go.Proofs.Ytagjkagfnfonpaa
