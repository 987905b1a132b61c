/-
  What tells structs apart: machinery.
-/
import Derived.Test.YtjkgiknklkfipaaOps
import Derived.Test.YtjkgiknklkfipaaBlk
import Derived.Test.YtjkgiknklkfipaaQTail
import Derived.Laws.StructEq
import Derived.Deep.RegionLaw
import Derived.Deep.DeepCutAuto
import Derived.ChangeArms
import Derived.Deep.Slices
namespace Go.Proofs.Ytjkgiknklkfipaa
open Go.RowKit Go.ChangeShapes Go.WideShapes Go.Deep
attribute [local go_sem ↓] Go.wp_at_zero Go.wp_at_succ
set_option linter.unusedVariables false
set_option linter.unusedSimpArgs false
theorem bits_callB (b : Nat) (w : World) : (callFunc 86 #[.float .f32 b]).run Try.prog w = .ok (.value (.int .u32 b)) w := by
  rw [run_callFunc_extern (fn := Try.f86) (e := Extern.MathFloatBits.float32bits) Try.func86 (by kernel_rfl) (by kernel_rfl) (by kernel_rfl) (by kernel_rfl)]
  rfl
attribute [local go_sem] bits_callB
theorem b_set {B : Nat} {a w : World} (h : Below B a w) {q : Nat} (hq : B ≤ q) (i : Nat) (v : Value) : Below B a (w.setCell ⟨q, i, none⟩ v) := h.setCell (p := ⟨q, i, none⟩) hq v
/-- One number, up to which NaN. -/
def sB (a b : Nat) : Bool := decide (cn a = cn b)
theorem natBeqS (a b : Nat) : ((a : Int) == (b : Int)) = decide (a = b) := by
  by_cases h : a = b
  · subst h; simp
  · have h1 : ¬ ((a : Int) = (b : Int)) := by omega
    rw [beq_eq_false_iff_ne.2 h1, decide_eq_false h]
theorem l01SameS_any (a b : Nat) (w : World) : Calls Try.prog 79 #[.float .f32 a, .float .f32 b] w fun e w' => e = .returned (.bool (sB a b)) ∧ w = w' := by
  cases ha : nan32 a
  · have a2 := order_self (k := .f32) ha
    cases hb : nan32 b
    · have b2 := order_self (k := .f32) hb
      have e : sB a b = ((a : Int) == (b : Int)) := by unfold sB; rw [cn_of_not ha, cn_of_not hb, natBeqS]
      rw [e]
      clear ha hb e
      go_enter Try.func79, Try.ntmps79
      go_wp2
      go_ret
      exact ⟨rfl, rfl⟩
    · have b2 := order_nan_left (k := .f32) b hb
      have e : sB a b = false := by
        unfold sB
        refine decide_eq_false (fun h => ?_)
        have := nan_cn a
        rw [h, nan_cn, ha, hb] at this
        cases this
      rw [e]
      clear ha hb e
      go_enter Try.func79, Try.ntmps79
      go_wp2
      all_goals
        go_ret
        exact ⟨rfl, rfl⟩
  · have a2 := order_nan_left (k := .f32) a ha
    cases hb : nan32 b
    · have b2 := order_self (k := .f32) hb
      have e : sB a b = false := by
        unfold sB
        refine decide_eq_false (fun h => ?_)
        have := nan_cn a
        rw [h, nan_cn, ha, hb] at this
        cases this
      rw [e]
      clear ha hb e
      go_enter Try.func79, Try.ntmps79
      go_wp2
      all_goals
        go_ret
        exact ⟨rfl, rfl⟩
    · have b2 := order_nan_left (k := .f32) b hb
      have e : sB a b = true := by unfold sB; rw [cn_of_nan ha, cn_of_nan hb]; rfl
      rw [e]
      clear ha hb e
      go_enter Try.func79, Try.ntmps79
      go_wp2
      all_goals
        go_ret
        exact ⟨rfl, rfl⟩
theorem l01S_is {a b : Nat} {t : Bool} (h : sB a b = t) (w : World) : Calls Try.prog 79 #[.float .f32 a, .float .f32 b] w fun e w' => e = .returned (.bool t) ∧ w = w' := by
  subst h
  exact l01SameS_any a b w
theorem sB_beq (a b : Nat) : ((cn a : Int) == (cn b : Int)) = sB a b := natBeqS _ _
end Go.Proofs.Ytjkgiknklkfipaa
