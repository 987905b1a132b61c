/-
  Sizes and parts; the power of water.
-/
import Derived.Test.YtajifkbpjabciaaDoorWv
import Derived.Test.YtajifkbpjabciaaDoorSen
namespace Go.Proofs.YtajifkbpjabciaaDoor
open Go.RowKit Go.ChangeShapes Go.WideShapes Go.Deep
attribute [local go_sem ↓] Go.wp_at_zero Go.wp_at_succ
set_option linter.unusedVariables false
set_option linter.unusedSimpArgs false
def partB (x : Nat) : Bool := oGe x 0 && oLe x 1065353216
theorem isPlainSize_any (m : Nat) (w : World) : Calls Tryd.prog 39 #[.float .f32 m] w fun e w' => e = .returned (.bool (psB m)) ∧ w = w' := by
  unfold psB oGe oLe
  go_enter Tryd.func39, Tryd.ntmps39
  go_wp2
  · go_ret
    exact ⟨rfl, rfl⟩
  · rename_i h
    go_ret
    refine ⟨?_, rfl⟩
    simp at h
    simp [h]
theorem l03Amount_any (m : Nat) (w : World) : Calls Tryd.prog 37 #[.float .f32 m] w fun e w' => e = .returned (.bool (psB m)) ∧ w = w' := by
  unfold psB oGe oLe
  go_enter Tryd.func37, Tryd.ntmps37
  go_wp2
  · go_ret
    exact ⟨rfl, rfl⟩
  · rename_i h
    go_ret
    refine ⟨?_, rfl⟩
    simp at h
    simp [h]
theorem isPart_any (m : Nat) (w : World) : Calls Tryd.prog 40 #[.float .f32 m] w fun e w' => e = .returned (.bool (partB m)) ∧ w = w' := by
  unfold partB oGe oLe
  go_enter Tryd.func40, Tryd.ntmps40
  go_wp2
  · go_ret
    exact ⟨rfl, rfl⟩
  · rename_i h
    go_ret
    refine ⟨?_, rfl⟩
    simp at h
    simp [h]
theorem l01Part_any (m : Nat) (w : World) : Calls Tryd.prog 38 #[.float .f32 m] w fun e w' => e = .returned (.bool (partB m)) ∧ w = w' := by
  unfold partB oGe oLe
  go_enter Tryd.func38, Tryd.ntmps38
  go_wp2
  · go_ret
    exact ⟨rfl, rfl⟩
  · rename_i h
    go_ret
    refine ⟨?_, rfl⟩
    simp at h
    simp [h]
def wpowC (f h p : Nat) : Nat := f2 .mul (f2 .mul (f2 .mul (cn f) (cn h)) (cn 1092419584)) (cn p)
def codeWp (f h p : Nat) : Int := if psB f && (radB h && partB p) then 0 else 2
theorem specWaterPower_any (f h p : Nat) (w : World) : Calls Tryd.prog 15 #[.float .f32 f, .float .f32 h, .float .f32 p] w (RFC (zeroIf (codeWp f h p) (wpowC f h p)) (codeWp f h p) w) := by
  obtain ⟨R, N, hR, hC⟩ := ops_fun Tryd.prog 22; have ra := hR .add rfl; have rs := hR .sub rfl; have rm := hR .mul rfl; have rq := hR .quo rfl; have HC := Lib.hid hC; clear hC hR
  rcases Bool.eq_false_or_eq_true (psB f && (radB h && partB p)) with hk | hk
  all_goals
    unfold codeWp
    rw [hk]
    simp only [if_true, if_false, Bool.false_eq_true, Bool.and_eq_true, Bool.and_eq_false_iff] at hk ⊢
    go_enter Tryd.func15, Tryd.ntmps15
    go_wp2_with (first | (go_at_call 37; refine (l03Amount_any _ _).mono ?_; rintro e w1 ⟨rfl, rfl⟩) | (go_at_call 28; refine (l03Length_any _ _).mono ?_; rintro e w1 ⟨rfl, rfl⟩) | (go_at_call 38; refine (l01Part_any _ _).mono ?_; rintro e w1 ⟨rfl, rfl⟩))
  all_goals
    first
      | (exfalso; simp_all; done)
      | (go_ret2
         refine ⟨_, rfl, ?_, ?_⟩
         · first | exact cn_lit _ | (unfold CN zeroIf wpowC; simp only [HC.out .add rfl, HC.out .mul rfl, HC.out .quo rfl, HC.out .sub rfl, *]; rfl) | (unfold CN zeroIf wpowC; simp only [HC.out .add rfl, HC.out .mul rfl, HC.out .quo rfl, HC.out .sub rfl, *]; done)
         (repeat (first | exact Below.refl _ _ | refine b_drewN ?_ _ | refine b_drew ?_ | refine b_alloc ?_ _ | refine b_then ?_ (by assumption))))
theorem implWaterPower_any (f h p : Nat) (w : World) (S : Sens) (hS : SenAt w S) : Calls Tryd.prog 16 #[.float .f32 f, .float .f32 h, .float .f32 p] w (RFC (zeroIf (codeWp f h p) (wpowC f h p)) (codeWp f h p) w) := by
  obtain ⟨R, N, hR, hC⟩ := ops_fun Tryd.prog 22; have ra := hR .add rfl; have rs := hR .sub rfl; have rm := hR .mul rfl; have rq := hR .quo rfl; have HC := Lib.hid hC; clear hC hR
  have hc := hS.1.2.1.cell
  have HS := Lib.hid hS
  clear hS
  rcases Bool.eq_false_or_eq_true (psB f && (radB h && partB p)) with hk | hk
  all_goals
    unfold codeWp
    rw [hk]
    simp only [if_true, if_false, Bool.false_eq_true, Bool.and_eq_true, Bool.and_eq_false_iff] at hk ⊢
    go_enter Tryd.func16, Tryd.ntmps16
    go_wp2_with (first | (go_at_call 39; refine (isPlainSize_any _ _).mono ?_; rintro e w1 ⟨rfl, rfl⟩) | (go_at_call 30; refine (isLength_any _ _).mono ?_; rintro e w1 ⟨rfl, rfl⟩) | (go_at_call 40; refine (isPart_any _ _).mono ?_; rintro e w1 ⟨rfl, rfl⟩) | (go_at_call 31; refine (codeOf_1 S _ HS.out).mono ?_; rintro e w1 ⟨rfl, rfl⟩))
  all_goals
    first
      | (exfalso; simp_all; done)
      | (go_ret2
         refine ⟨_, rfl, ?_, ?_⟩
         · first | exact cn_lit _ | (unfold CN zeroIf wpowC; simp only [HC.out .add rfl, HC.out .mul rfl, HC.out .quo rfl, HC.out .sub rfl, *]; rfl) | (unfold CN zeroIf wpowC; simp only [HC.out .add rfl, HC.out .mul rfl, HC.out .quo rfl, HC.out .sub rfl, *]; done)
         (repeat (first | exact Below.refl _ _ | refine b_drewN ?_ _ | refine b_drew ?_ | refine b_alloc ?_ _ | refine b_then ?_ (by assumption))))
end Go.Proofs.YtajifkbpjabciaaDoor
