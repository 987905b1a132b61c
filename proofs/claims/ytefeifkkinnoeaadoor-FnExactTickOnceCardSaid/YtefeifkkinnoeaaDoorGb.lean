/-
  The gate behind a tick: the program's functions and the model's.
-/
import Derived.Test.YtefeifkkinnoeaaDoorTe
namespace Go.Proofs.YtefeifkkinnoeaaDoor
open Go.RowKit Go.ChangeShapes Go.WideShapes Go.Deep
attribute [local go_sem ↓] Go.wp_at_zero Go.wp_at_succ
set_option linter.unusedVariables false
set_option linter.unusedSimpArgs false
set_option maxRecDepth 100000
def gateN (G : Gv) (S : Se) : Int := if oGt S.s G.hi then (if S.g - 1 < 0 then 0 else S.g - 1) else if oLt S.s G.lo then (if 16 < S.g + 1 then 16 else S.g + 1) else S.g
theorem gateN_in {G : Gv} {S : Se} (g0 : 0 ≤ S.g) (g1 : S.g ≤ 16) : 0 ≤ gateN G S ∧ gateN G S ≤ 16 := by
  unfold gateN
  split
  · split <;> omega
  · split
    · split <;> omega
    · omega
theorem i8_small {z : Int} (h0 : -1 ≤ z) (h1 : z ≤ 17) : IntKind.i8.wrap z = z := by
  unfold IntKind.wrap
  simp [IntKind.signed, IntKind.bits]
  omega
theorem i64_small {z : Int} (h0 : -1 ≤ z) (h1 : z ≤ 17) : IntKind.i64.wrap z = z := by
  unfold IntKind.wrap
  simp [IntKind.signed, IntKind.bits]
  omega
theorem gateBehind_any (G : Gv) (S : Se) (p : Nat) (g0 : 0 ≤ S.g) (g1 : S.g ≤ 16) (w : World) : Calls Tryd.prog 26 #[.agg #[.int .i16 G.mb, .float .f32 G.mh, .float .f32 G.mr, .int .i16 G.mb, .float .f32 G.mh, .float .f32 G.mr, .float .f32 G.ar, .float .f32 G.he, .float .f32 G.lo, .float .f32 G.hi, .float .f32 G.ine, .map (some p)], .agg #[.float .f32 S.s, .int .i8 S.g]] w (RV (.int .i8 (gateN G S)) w) := by
  have h1 := i8_small (z := S.g - 1) (by omega) (by omega)
  have h2 := i8_small (z := S.g + 1) (by omega) (by omega)
  unfold gateN
  rcases Bool.eq_false_or_eq_true (oGt S.s G.hi) with hk | hk <;> rcases Bool.eq_false_or_eq_true (oLt S.s G.lo) with hs | hs
  all_goals
    simp only [hk, hs, if_true, if_false, Bool.false_eq_true]
    unfold oGt at hk
    unfold oLt at hs
    go_enter Tryd.func26, Tryd.ntmps26
    go_wp2
    all_goals
      go_ret
      refine ⟨?_, ?_⟩
      · first | rfl | (congr 2; (repeat split) <;> omega) | (congr 2; split <;> omega) | (simp_all; done)
      (repeat (first | exact Below.refl _ _ | refine b_drewN ?_ _ | refine b_drew ?_ | refine b_alloc ?_ _ | refine b_then ?_ (by assumption)))
theorem l00Max_any (a b : Int) (w : World) : Calls Tryd.prog 33 #[.int .i64 a, .int .i64 b] w fun e w' => e = .returned (.int .i64 (if b < a then a else b)) ∧ w = w' := by
  by_cases h : b < a
  all_goals
    go_enter Tryd.func33, Tryd.ntmps33
    go_wp2
    all_goals
      go_ret
      exact ⟨by simp [h], rfl⟩
theorem l00Min_any (a b : Int) (w : World) : Calls Tryd.prog 34 #[.int .i64 a, .int .i64 b] w fun e w' => e = .returned (.int .i64 (if a < b then a else b)) ∧ w = w' := by
  by_cases h : a < b
  all_goals
    go_enter Tryd.func34, Tryd.ntmps34
    go_wp2
    all_goals
      go_ret
      exact ⟨by simp [h], rfl⟩
theorem l03Gate_any (G : Gv) (S : Se) (wS : (Lit.int .i8 S.g).wf = true) (g0 : 0 ≤ S.g) (g1 : S.g ≤ 16) (w : World) : Calls Tryd.prog 20 #[.agg #[.int .i16 G.mb, .float .f32 G.mh, .float .f32 G.mr, .float .f32 G.ar, .float .f32 G.he, .float .f32 G.lo, .float .f32 G.hi, .float .f32 G.ine], .agg #[.float .f32 S.s, .int .i8 S.g]] w (RV (.int .i64 (gateN G S)) w) := by
  have h0 := i64_of_i8 wS
  have h1 := i64_small (z := S.g - 1) (by omega) (by omega)
  have h2 := i64_small (z := S.g + 1) (by omega) (by omega)
  unfold gateN
  rcases Bool.eq_false_or_eq_true (oGt S.s G.hi) with hk | hk <;> rcases Bool.eq_false_or_eq_true (oLt S.s G.lo) with hs | hs
  all_goals
    simp only [hk, hs, if_true, if_false, Bool.false_eq_true]
    unfold oGt at hk
    unfold oLt at hs
    go_enter Tryd.func20, Tryd.ntmps20
    go_wp2_with (first | (go_at_call 33; refine (l00Max_any _ _ _).mono ?_; rintro e w1 ⟨rfl, rfl⟩) | (go_at_call 34; refine (l00Min_any _ _ _).mono ?_; rintro e w1 ⟨rfl, rfl⟩))
    all_goals
      go_ret
      refine ⟨?_, ?_⟩
      · first | rfl | (congr 2; (repeat split) <;> omega) | (congr 2; split <;> omega) | (simp_all; done)
      (repeat (first | exact Below.refl _ _ | refine b_drewN ?_ _ | refine b_drew ?_ | refine b_alloc ?_ _ | refine b_then ?_ (by assumption)))
def zeroIfI (k x : Int) : Int := if k = 0 then x else 0
/-- The call returns two integers, and turns nothing that was there. -/
def RIC (x k : Int) (w : World) (e : Ending) (w' : World) : Prop := e = .returned (.tuple #[.int .i64 x, .int .i64 k]) ∧ Below w.heap.size w w'
end Go.Proofs.YtefeifkkinnoeaaDoor
