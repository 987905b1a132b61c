/-
  When rates, parts, sizes and stones are valid; the codes of a stone.
-/
import Derived.Test.YtchilhapomfbeaaSk
import Derived.Test.YtchilhapomfbeaaMc
namespace Go.Proofs.Ytchilhapomfbeaa
open Go.RowKit Go.ChangeShapes Go.WideShapes Go.Deep
attribute [local go_sem ↓] Go.wp_at_zero Go.wp_at_succ
set_option linter.unusedVariables false
set_option linter.unusedSimpArgs false
def rtB (x : Nat) : Bool := oGe x 0 && oLe x 1149239296
def partB (x : Nat) : Bool := oGe x 0 && oLe x 1065353216
def okS (S : Sn) : Bool := rtB S.d && (rtB S.r && (rtB S.b && partB S.g))
theorem isRate_any (m : Nat) (w : World) : Calls Try.prog 68 #[.float .f32 m] w fun e w' => e = .returned (.bool (rtB m)) ∧ w = w' := by
  unfold rtB oGe oLe
  go_enter Try.func68, Try.ntmps68
  go_wp2
  · go_ret
    exact ⟨rfl, rfl⟩
  · rename_i h
    go_ret
    refine ⟨?_, rfl⟩
    simp at h
    simp [h]
theorem l04Rate_any (m : Nat) (w : World) : Calls Try.prog 106 #[.float .f32 m] w fun e w' => e = .returned (.bool (rtB m)) ∧ w = w' := by
  unfold rtB oGe oLe
  go_enter Try.func106, Try.ntmps106
  go_wp2
  · go_ret
    exact ⟨rfl, rfl⟩
  · rename_i h
    go_ret
    refine ⟨?_, rfl⟩
    simp at h
    simp [h]
theorem isPart_any (m : Nat) (w : World) : Calls Try.prog 73 #[.float .f32 m] w fun e w' => e = .returned (.bool (partB m)) ∧ w = w' := by
  unfold partB oGe oLe
  go_enter Try.func73, Try.ntmps73
  go_wp2
  · go_ret
    exact ⟨rfl, rfl⟩
  · rename_i h
    go_ret
    refine ⟨?_, rfl⟩
    simp at h
    simp [h]
theorem l01Part_any (m : Nat) (w : World) : Calls Try.prog 72 #[.float .f32 m] w fun e w' => e = .returned (.bool (partB m)) ∧ w = w' := by
  unfold partB oGe oLe
  go_enter Try.func72, Try.ntmps72
  go_wp2
  · go_ret
    exact ⟨rfl, rfl⟩
  · rename_i h
    go_ret
    refine ⟨?_, rfl⟩
    simp at h
    simp [h]
theorem isPlainSize_any (m : Nat) (w : World) : Calls Try.prog 67 #[.float .f32 m] w fun e w' => e = .returned (.bool (psB m)) ∧ w = w' := by
  unfold psB oGe oLe
  go_enter Try.func67, Try.ntmps67
  go_wp2
  · go_ret
    exact ⟨rfl, rfl⟩
  · rename_i h
    go_ret
    refine ⟨?_, rfl⟩
    simp at h
    simp [h]
theorem l03Amount_any (m : Nat) (w : World) : Calls Try.prog 105 #[.float .f32 m] w fun e w' => e = .returned (.bool (psB m)) ∧ w = w' := by
  unfold psB oGe oLe
  go_enter Try.func105, Try.ntmps105
  go_wp2
  · go_ret
    exact ⟨rfl, rfl⟩
  · rename_i h
    go_ret
    refine ⟨?_, rfl⟩
    simp at h
    simp [h]
theorem validStone_any (S : Sn) (w : World) : Calls Try.prog 138 #[.agg #[.float .f32 S.d, .float .f32 S.r, .float .f32 S.b, .float .f32 S.g]] w (RV (.bool (okS S)) w) := by
  unfold okS
  rcases Bool.eq_false_or_eq_true (rtB S.d) with h0 | h0 <;> rcases Bool.eq_false_or_eq_true (rtB S.r) with h1 | h1 <;> rcases Bool.eq_false_or_eq_true (rtB S.b) with h2 | h2 <;> rcases Bool.eq_false_or_eq_true (partB S.g) with h3 | h3
  all_goals
    simp only [h0, h1, h2, h3, Bool.and_true, Bool.and_false, Bool.true_and, Bool.false_and]
    go_enter Try.func138, Try.ntmps138
    go_wp2_with (first | (go_at_call 68; refine (isRate_any _ _).mono ?_; rintro e w1 ⟨rfl, rfl⟩) | (go_at_call 73; refine (isPart_any _ _).mono ?_; rintro e w1 ⟨rfl, rfl⟩))
    go_ret
    refine ⟨rfl, ?_⟩
    (repeat (first | exact Below.refl _ _ | refine b_drewN ?_ _ | refine b_drew ?_ | refine b_alloc ?_ _ | refine b_then ?_ (by assumption)))
theorem l04Ok_any (S : Sn) (w : World) : Calls Try.prog 104 #[.agg #[.float .f32 S.d, .float .f32 S.r, .float .f32 S.b, .float .f32 S.g]] w (RV (.bool (okS S)) w) := by
  unfold okS
  rcases Bool.eq_false_or_eq_true (rtB S.d) with h0 | h0 <;> rcases Bool.eq_false_or_eq_true (rtB S.r) with h1 | h1 <;> rcases Bool.eq_false_or_eq_true (rtB S.b) with h2 | h2 <;> rcases Bool.eq_false_or_eq_true (partB S.g) with h3 | h3
  all_goals
    simp only [h0, h1, h2, h3, Bool.and_true, Bool.and_false, Bool.true_and, Bool.false_and]
    go_enter Try.func104, Try.ntmps104
    go_wp2_with (first | (go_at_call 106; refine (l04Rate_any _ _).mono ?_; rintro e w1 ⟨rfl, rfl⟩) | (go_at_call 72; refine (l01Part_any _ _).mono ?_; rintro e w1 ⟨rfl, rfl⟩))
    go_ret
    refine ⟨rfl, ?_⟩
    (repeat (first | exact Below.refl _ _ | refine b_drewN ?_ _ | refine b_drew ?_ | refine b_alloc ?_ _ | refine b_then ?_ (by assumption)))
end Go.Proofs.Ytchilhapomfbeaa
