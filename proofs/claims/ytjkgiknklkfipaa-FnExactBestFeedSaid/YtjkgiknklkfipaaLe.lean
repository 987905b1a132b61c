/-
  The error of a stone with a list: the program's.
-/
import Derived.Test.YtjkgiknklkfipaaSe
namespace Go.Proofs.Ytjkgiknklkfipaa
open Go.RowKit Go.ChangeShapes Go.WideShapes Go.Deep
attribute [local go_sem ↓] Go.wp_at_zero Go.wp_at_succ
set_option linter.unusedVariables false
set_option linter.unusedSimpArgs false
set_option maxRecDepth 100000
def codeL (ok rng : Bool) (n : Nat) : Int := if codeR ok rng = 0 then (if 60 < n then 3 else 0) else codeR ok rng
theorem listError_any (S : Sn) (b : Bool) (n : Nat) (w : World) (hn : n ≤ 1048576) : Calls Try.prog 61 #[.agg #[.float .f32 S.d, .float .f32 S.r, .float .f32 S.b, .float .f32 S.g], .bool b, .int .i64 n] w (RV (.int .i64 (codeL (okS S) b n)) w) := by
  by_cases h0 : codeR (okS S) b = 0
  · by_cases hgt : 60 < (n : Int)
    · rw [show codeL (okS S) b n = 3 by unfold codeL; rw [if_pos h0, if_pos (by omega)]]
      go_enter Try.func61, Try.ntmps61
      go_wp2_with (go_at_call 95; refine (stoneError_is h0 _).mono ?_; rintro e w1 ⟨rfl, b1⟩)
      go_ret
      refine ⟨rfl, ?_⟩
      (repeat (first | exact Below.refl _ _ | refine b_drewN ?_ _ | refine b_drew ?_ | refine b_alloc ?_ _ | refine b_then ?_ (by assumption)))
    · rw [show codeL (okS S) b n = 0 by unfold codeL; rw [if_pos h0, if_neg (by omega)]]
      go_enter Try.func61, Try.ntmps61
      go_wp2_with (go_at_call 95; refine (stoneError_is h0 _).mono ?_; rintro e w1 ⟨rfl, b1⟩)
      go_ret
      refine ⟨rfl, ?_⟩
      (repeat (first | exact Below.refl _ _ | refine b_drewN ?_ _ | refine b_drew ?_ | refine b_alloc ?_ _ | refine b_then ?_ (by assumption)))
  · obtain ⟨K, hK⟩ : ∃ K, codeR (okS S) b = K := ⟨_, rfl⟩
    rw [show codeL (okS S) b n = K by unfold codeL; rw [if_neg h0, hK]]
    have hc := codeR_cases hK
    rw [hK] at h0
    rcases hc with rfl | rfl | rfl
    · exact absurd rfl h0
    all_goals
      go_enter Try.func61, Try.ntmps61
      go_wp2_with (go_at_call 95; refine (stoneError_is hK _).mono ?_; rintro e w1 ⟨rfl, b1⟩)
      go_ret
      refine ⟨rfl, ?_⟩
      (repeat (first | exact Below.refl _ _ | refine b_drewN ?_ _ | refine b_drew ?_ | refine b_alloc ?_ _ | refine b_then ?_ (by assumption)))
end Go.Proofs.Ytjkgiknklkfipaa
