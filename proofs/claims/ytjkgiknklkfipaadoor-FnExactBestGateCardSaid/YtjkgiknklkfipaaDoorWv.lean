/-
  When lengths, mills, states and governors are valid: the program's functions and the model's.
-/
import Derived.Test.YtjkgiknklkfipaaDoorSt
namespace Go.Proofs.YtjkgiknklkfipaaDoor
open Go.RowKit Go.ChangeShapes Go.WideShapes Go.Deep
attribute [local go_sem ↓] Go.wp_at_zero Go.wp_at_succ
set_option linter.unusedVariables false
set_option linter.unusedSimpArgs false
def spB (x : Nat) : Bool := oGe x 0 && oLe x 1149239296
def inB (x lo hi : Int) : Bool := decide (lo ≤ x) && decide (x ≤ hi)
def okM (M : Ml) : Bool := inB M.b 4 48 && (radB M.h && radB M.r)
theorem i64_of_i16 {b : Int} (h : (Lit.int .i16 b).wf = true) : IntKind.i64.wrap b = b := by
  simp only [Lit.wf, Bool.and_eq_true, decide_eq_true_eq] at h
  obtain ⟨h1, h2⟩ := h
  rw [show IntKind.i16.min = -32768 by rfl] at h1
  rw [show IntKind.i16.max = 32767 by rfl] at h2
  unfold IntKind.wrap
  simp [IntKind.signed, IntKind.bits]
  omega
theorem i64_of_i8 {b : Int} (h : (Lit.int .i8 b).wf = true) : IntKind.i64.wrap b = b := by
  simp only [Lit.wf, Bool.and_eq_true, decide_eq_true_eq] at h
  obtain ⟨h1, h2⟩ := h
  rw [show IntKind.i8.min = -128 by rfl] at h1
  rw [show IntKind.i8.max = 127 by rfl] at h2
  unfold IntKind.wrap
  simp [IntKind.signed, IntKind.bits]
  omega
theorem l00In_any (x lo hi : Int) (w : World) : Calls Tryd.prog 85 #[.int .i64 x, .int .i64 lo, .int .i64 hi] w fun e w' => e = .returned (.bool (inB x lo hi)) ∧ w = w' := by
  unfold inB
  go_enter Tryd.func85, Tryd.ntmps85
  go_wp2
  all_goals
    go_ret
    refine ⟨by first | (simp_all; done) | (simp_all; omega) | (simp_all; intros; omega), rfl⟩
theorem isLength_any (m : Nat) (w : World) : Calls Tryd.prog 100 #[.float .f32 m] w fun e w' => e = .returned (.bool (radB m)) ∧ w = w' := by
  unfold radB oGe oLe
  go_enter Tryd.func100, Tryd.ntmps100
  go_wp2
  · go_ret
    exact ⟨rfl, rfl⟩
  · rename_i h
    go_ret
    refine ⟨?_, rfl⟩
    simp at h
    simp [h]
theorem l03Length_any (m : Nat) (w : World) : Calls Tryd.prog 96 #[.float .f32 m] w fun e w' => e = .returned (.bool (radB m)) ∧ w = w' := by
  unfold radB oGe oLe
  go_enter Tryd.func96, Tryd.ntmps96
  go_wp2
  · go_ret
    exact ⟨rfl, rfl⟩
  · rename_i h
    go_ret
    refine ⟨?_, rfl⟩
    simp at h
    simp [h]
theorem isSpeed_any (m : Nat) (w : World) : Calls Tryd.prog 80 #[.float .f32 m] w fun e w' => e = .returned (.bool (spB m)) ∧ w = w' := by
  unfold spB oGe oLe
  go_enter Tryd.func80, Tryd.ntmps80
  go_wp2
  · go_ret
    exact ⟨rfl, rfl⟩
  · rename_i h
    go_ret
    refine ⟨?_, rfl⟩
    simp at h
    simp [h]
theorem l03Speed_any (m : Nat) (w : World) : Calls Tryd.prog 75 #[.float .f32 m] w fun e w' => e = .returned (.bool (spB m)) ∧ w = w' := by
  unfold spB oGe oLe
  go_enter Tryd.func75, Tryd.ntmps75
  go_wp2
  · go_ret
    exact ⟨rfl, rfl⟩
  · rename_i h
    go_ret
    refine ⟨?_, rfl⟩
    simp at h
    simp [h]
theorem validMill_any (M : Ml) (w : World) : Calls Tryd.prog 99 #[.agg #[.int .i16 M.b, .float .f32 M.h, .float .f32 M.r]] w (RV (.bool (okM M)) w) := by
  go_enter Tryd.func99, Tryd.ntmps99
  go_wp2_with (go_at_call 100; refine (isLength_any _ _).mono ?_; rintro e w1 ⟨rfl, rfl⟩)
  all_goals
    go_ret
    refine ⟨by first | (simp_all [okM, inB, Bool.and_assoc]; done) | (simp_all [okM, inB, Bool.and_assoc]; intros; omega), ?_⟩
    (repeat (first | exact Below.refl _ _ | refine b_drewN ?_ _ | refine b_drew ?_ | refine b_alloc ?_ _ | refine b_then ?_ (by assumption)))
theorem l03Mill_any (M : Ml) (wM : (Lit.int .i16 M.b).wf = true) (w : World) : Calls Tryd.prog 95 #[.agg #[.int .i16 M.b, .float .f32 M.h, .float .f32 M.r]] w (RV (.bool (okM M)) w) := by
  have hb := i64_of_i16 wM
  clear wM
  go_enter Tryd.func95, Tryd.ntmps95
  go_wp2_with (first | (go_at_call 96; refine (l03Length_any _ _).mono ?_; rintro e w1 ⟨rfl, rfl⟩) | (go_at_call 85; refine (l00In_any _ _ _ _).mono ?_; rintro e w1 ⟨rfl, rfl⟩))
  all_goals
    go_ret
    refine ⟨by simp_all [okM, Bool.and_assoc], ?_⟩
    (repeat (first | exact Below.refl _ _ | refine b_drewN ?_ _ | refine b_drew ?_ | refine b_alloc ?_ _ | refine b_then ?_ (by assumption)))
def stB (S : Se) : Bool := spB S.s && inB S.g 0 16
def millOf (G : Gv) : Ml := ⟨G.mb, G.mh, G.mr⟩
def okG (G : Gv) : Bool := okM (millOf G) && (radB G.ar && (radB G.he && (radB G.ine && (oGe G.lo 0 && (oLe G.hi 1149239296 && oLt G.lo G.hi)))))
theorem validGov_any (G : Gv) (w : World) : Calls Tryd.prog 79 #[.agg #[.int .i16 G.mb, .float .f32 G.mh, .float .f32 G.mr, .float .f32 G.ar, .float .f32 G.he, .float .f32 G.lo, .float .f32 G.hi, .float .f32 G.ine]] w (RV (.bool (okG G)) w) := by
  go_enter Tryd.func79, Tryd.ntmps79
  go_wp2_with (first | (go_at_call 100; refine (isLength_any _ _).mono ?_; rintro e w1 ⟨rfl, rfl⟩) | (go_at_call 99; refine (validMill_any (millOf G) _).mono ?_; rintro e w1 ⟨rfl, b1⟩; obtain ⟨c0, c1, c2, c3, c4, c5, c6, c7⟩ := ((AtGv.new w G).on (by rfl) b1).cells))
  all_goals
    go_ret
    refine ⟨by simp_all [okG, oGe, oLe, oLt, Bool.and_assoc], ?_⟩
    (repeat (first | exact Below.refl _ _ | refine b_drewN ?_ _ | refine b_drew ?_ | refine b_alloc ?_ _ | refine b_then ?_ (by assumption)))
theorem l03Ok_any (G : Gv) (wG : (Lit.int .i16 G.mb).wf = true) (w : World) : Calls Tryd.prog 74 #[.agg #[.int .i16 G.mb, .float .f32 G.mh, .float .f32 G.mr, .float .f32 G.ar, .float .f32 G.he, .float .f32 G.lo, .float .f32 G.hi, .float .f32 G.ine]] w (RV (.bool (okG G)) w) := by
  go_enter Tryd.func74, Tryd.ntmps74
  go_wp2_with (first | (go_at_call 96; refine (l03Length_any _ _).mono ?_; rintro e w1 ⟨rfl, rfl⟩) | (go_at_call 95; refine (l03Mill_any (millOf G) wG _).mono ?_; rintro e w1 ⟨rfl, b1⟩; obtain ⟨c0, c1, c2, c3, c4, c5, c6, c7⟩ := ((AtGv.new w G).on (by rfl) b1).cells))
  all_goals
    go_ret
    refine ⟨by simp_all [okG, oGe, oLe, oLt, Bool.and_assoc], ?_⟩
    (repeat (first | exact Below.refl _ _ | refine b_drewN ?_ _ | refine b_drew ?_ | refine b_alloc ?_ _ | refine b_then ?_ (by assumption)))
end Go.Proofs.YtjkgiknklkfipaaDoor
