/-
  When rates, parts, sizes and stones are valid; the codes of a stone.
-/
import Derived.Test.YtjkgiknklkfipaaSk
import Derived.Test.YtjkgiknklkfipaaMc
namespace Go.Proofs.Ytjkgiknklkfipaa
open Go.RowKit Go.ChangeShapes Go.WideShapes Go.Deep
attribute [local go_sem ↓] Go.wp_at_zero Go.wp_at_succ
set_option linter.unusedVariables false
set_option linter.unusedSimpArgs false
def rtB (x : Nat) : Bool := oGe x 0 && oLe x 1149239296
def partB (x : Nat) : Bool := oGe x 0 && oLe x 1065353216
def okS (S : Sn) : Bool := rtB S.d && (rtB S.r && (rtB S.b && partB S.g))
theorem isRate_any (m : Nat) (w : World) : Calls Try.prog 59 #[.float .f32 m] w fun e w' => e = .returned (.bool (rtB m)) ∧ w = w' := by
  unfold rtB oGe oLe
  go_enter Try.func59, Try.ntmps59
  go_wp2
  · go_ret
    exact ⟨rfl, rfl⟩
  · rename_i h
    go_ret
    refine ⟨?_, rfl⟩
    simp at h
    simp [h]
theorem l04Rate_any (m : Nat) (w : World) : Calls Try.prog 68 #[.float .f32 m] w fun e w' => e = .returned (.bool (rtB m)) ∧ w = w' := by
  unfold rtB oGe oLe
  go_enter Try.func68, Try.ntmps68
  go_wp2
  · go_ret
    exact ⟨rfl, rfl⟩
  · rename_i h
    go_ret
    refine ⟨?_, rfl⟩
    simp at h
    simp [h]
theorem isPart_any (m : Nat) (w : World) : Calls Try.prog 60 #[.float .f32 m] w fun e w' => e = .returned (.bool (partB m)) ∧ w = w' := by
  unfold partB oGe oLe
  go_enter Try.func60, Try.ntmps60
  go_wp2
  · go_ret
    exact ⟨rfl, rfl⟩
  · rename_i h
    go_ret
    refine ⟨?_, rfl⟩
    simp at h
    simp [h]
theorem l01Part_any (m : Nat) (w : World) : Calls Try.prog 55 #[.float .f32 m] w fun e w' => e = .returned (.bool (partB m)) ∧ w = w' := by
  unfold partB oGe oLe
  go_enter Try.func55, Try.ntmps55
  go_wp2
  · go_ret
    exact ⟨rfl, rfl⟩
  · rename_i h
    go_ret
    refine ⟨?_, rfl⟩
    simp at h
    simp [h]
theorem isPlainSize_any (m : Nat) (w : World) : Calls Try.prog 58 #[.float .f32 m] w fun e w' => e = .returned (.bool (psB m)) ∧ w = w' := by
  unfold psB oGe oLe
  go_enter Try.func58, Try.ntmps58
  go_wp2
  · go_ret
    exact ⟨rfl, rfl⟩
  · rename_i h
    go_ret
    refine ⟨?_, rfl⟩
    simp at h
    simp [h]
theorem l03Amount_any (m : Nat) (w : World) : Calls Try.prog 67 #[.float .f32 m] w fun e w' => e = .returned (.bool (psB m)) ∧ w = w' := by
  unfold psB oGe oLe
  go_enter Try.func67, Try.ntmps67
  go_wp2
  · go_ret
    exact ⟨rfl, rfl⟩
  · rename_i h
    go_ret
    refine ⟨?_, rfl⟩
    simp at h
    simp [h]
theorem validStone_any (S : Sn) (w : World) : Calls Try.prog 118 #[.agg #[.float .f32 S.d, .float .f32 S.r, .float .f32 S.b, .float .f32 S.g]] w (RV (.bool (okS S)) w) := by
  unfold okS
  rcases Bool.eq_false_or_eq_true (rtB S.d) with h0 | h0 <;> rcases Bool.eq_false_or_eq_true (rtB S.r) with h1 | h1 <;> rcases Bool.eq_false_or_eq_true (rtB S.b) with h2 | h2 <;> rcases Bool.eq_false_or_eq_true (partB S.g) with h3 | h3
  all_goals
    simp only [h0, h1, h2, h3, Bool.and_true, Bool.and_false, Bool.true_and, Bool.false_and]
    go_enter Try.func118, Try.ntmps118
    go_wp2_with (first | (go_at_call 59; refine (isRate_any _ _).mono ?_; rintro e w1 ⟨rfl, rfl⟩) | (go_at_call 60; refine (isPart_any _ _).mono ?_; rintro e w1 ⟨rfl, rfl⟩))
    go_ret
    refine ⟨rfl, ?_⟩
    (repeat (first | exact Below.refl _ _ | refine b_drewN ?_ _ | refine b_drew ?_ | refine b_alloc ?_ _ | refine b_then ?_ (by assumption)))
theorem l04Ok_any (S : Sn) (w : World) : Calls Try.prog 66 #[.agg #[.float .f32 S.d, .float .f32 S.r, .float .f32 S.b, .float .f32 S.g]] w (RV (.bool (okS S)) w) := by
  unfold okS
  rcases Bool.eq_false_or_eq_true (rtB S.d) with h0 | h0 <;> rcases Bool.eq_false_or_eq_true (rtB S.r) with h1 | h1 <;> rcases Bool.eq_false_or_eq_true (rtB S.b) with h2 | h2 <;> rcases Bool.eq_false_or_eq_true (partB S.g) with h3 | h3
  all_goals
    simp only [h0, h1, h2, h3, Bool.and_true, Bool.and_false, Bool.true_and, Bool.false_and]
    go_enter Try.func66, Try.ntmps66
    go_wp2_with (first | (go_at_call 68; refine (l04Rate_any _ _).mono ?_; rintro e w1 ⟨rfl, rfl⟩) | (go_at_call 55; refine (l01Part_any _ _).mono ?_; rintro e w1 ⟨rfl, rfl⟩))
    go_ret
    refine ⟨rfl, ?_⟩
    (repeat (first | exact Below.refl _ _ | refine b_drewN ?_ _ | refine b_drew ?_ | refine b_alloc ?_ _ | refine b_then ?_ (by assumption)))
end Go.Proofs.Ytjkgiknklkfipaa
