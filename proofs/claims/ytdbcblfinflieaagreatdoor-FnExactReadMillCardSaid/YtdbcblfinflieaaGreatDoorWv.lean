/-
  When lengths, mills, states and governors are valid: the program's functions and the model's.
-/
import Derived.Test.YtdbcblfinflieaaGreatDoorSt
namespace Go.Proofs.YtdbcblfinflieaaGreatDoor
open Go.RowKit Go.ChangeShapes Go.WideShapes Go.Deep
attribute [local go_sem ↓] Go.wp_at_zero Go.wp_at_succ
set_option linter.unusedVariables false
set_option linter.unusedSimpArgs false
def spB (x : Nat) : Bool := oGe x 0 && oLe x 1149239296
def inB (x lo hi : Int) : Bool := decide (lo ≤ x) && decide (x ≤ hi)
def okM (M : Ml) : Bool := inB M.b 4 48 && (radB M.h && radB M.r)
theorem i64_of_i16 {b : Int} (h : (Lit.int .i16 b).wf = true) : IntKind.i64.wrap b = b := by
  simp only [Lit.wf, Bool.and_eq_true, decide_eq_true_eq] at h
  obtain ⟨h1, h2⟩ := h
  rw [show IntKind.i16.min = -32768 by rfl] at h1
  rw [show IntKind.i16.max = 32767 by rfl] at h2
  unfold IntKind.wrap
  simp [IntKind.signed, IntKind.bits]
  omega
theorem i64_of_i8 {b : Int} (h : (Lit.int .i8 b).wf = true) : IntKind.i64.wrap b = b := by
  simp only [Lit.wf, Bool.and_eq_true, decide_eq_true_eq] at h
  obtain ⟨h1, h2⟩ := h
  rw [show IntKind.i8.min = -128 by rfl] at h1
  rw [show IntKind.i8.max = 127 by rfl] at h2
  unfold IntKind.wrap
  simp [IntKind.signed, IntKind.bits]
  omega
theorem l00In_any (x lo hi : Int) (w : World) : Calls Tryz.prog 16 #[.int .i64 x, .int .i64 lo, .int .i64 hi] w fun e w' => e = .returned (.bool (inB x lo hi)) ∧ w = w' := by
  unfold inB
  go_enter Tryz.func16, Tryz.ntmps16
  go_wp2
  all_goals
    go_ret
    refine ⟨by first | (simp_all; done) | (simp_all; omega) | (simp_all; intros; omega), rfl⟩
theorem isLength_any (m : Nat) (w : World) : Calls Tryz.prog 45 #[.float .f32 m] w fun e w' => e = .returned (.bool (radB m)) ∧ w = w' := by
  unfold radB oGe oLe
  go_enter Tryz.func45, Tryz.ntmps45
  go_wp2
  · go_ret
    exact ⟨rfl, rfl⟩
  · rename_i h
    go_ret
    refine ⟨?_, rfl⟩
    simp at h
    simp [h]
theorem l03Length_any (m : Nat) (w : World) : Calls Tryz.prog 17 #[.float .f32 m] w fun e w' => e = .returned (.bool (radB m)) ∧ w = w' := by
  unfold radB oGe oLe
  go_enter Tryz.func17, Tryz.ntmps17
  go_wp2
  · go_ret
    exact ⟨rfl, rfl⟩
  · rename_i h
    go_ret
    refine ⟨?_, rfl⟩
    simp at h
    simp [h]
theorem validMill_any (M : Ml) (w : World) : Calls Tryz.prog 29 #[.agg #[.int .i16 M.b, .float .f32 M.h, .float .f32 M.r]] w (RV (.bool (okM M)) w) := by
  go_enter Tryz.func29, Tryz.ntmps29
  go_wp2_with (go_at_call 45; refine (isLength_any _ _).mono ?_; rintro e w1 ⟨rfl, rfl⟩)
  all_goals
    go_ret
    refine ⟨by first | (simp_all [okM, inB, Bool.and_assoc]; done) | (simp_all [okM, inB, Bool.and_assoc]; intros; omega), ?_⟩
    (repeat (first | exact Below.refl _ _ | refine b_drewN ?_ _ | refine b_drew ?_ | refine b_alloc ?_ _ | refine b_then ?_ (by assumption)))
theorem l03Mill_any (M : Ml) (wM : (Lit.int .i16 M.b).wf = true) (w : World) : Calls Tryz.prog 10 #[.agg #[.int .i16 M.b, .float .f32 M.h, .float .f32 M.r]] w (RV (.bool (okM M)) w) := by
  have hb := i64_of_i16 wM
  clear wM
  go_enter Tryz.func10, Tryz.ntmps10
  go_wp2_with (first | (go_at_call 17; refine (l03Length_any _ _).mono ?_; rintro e w1 ⟨rfl, rfl⟩) | (go_at_call 16; refine (l00In_any _ _ _ _).mono ?_; rintro e w1 ⟨rfl, rfl⟩))
  all_goals
    go_ret
    refine ⟨by simp_all [okM, Bool.and_assoc], ?_⟩
    (repeat (first | exact Below.refl _ _ | refine b_drewN ?_ _ | refine b_drew ?_ | refine b_alloc ?_ _ | refine b_then ?_ (by assumption)))
end Go.Proofs.YtdbcblfinflieaaGreatDoor
