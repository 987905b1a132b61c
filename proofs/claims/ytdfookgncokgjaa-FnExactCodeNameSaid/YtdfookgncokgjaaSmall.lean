/-
  Walks of small functions: names of codes, plain numbers, parts.
-/
import Derived.Test.YtdfookgncokgjaaRows
import Derived.WalkKit
import Derived.WalkLawsBesides
import Derived.Test.YtdfookgncokgjaaNum
import Derived.Laws.Externs
import Derived.Below
namespace Go.Proofs.Ytdfookgncokgjaa
open Go.RowKit
set_option linter.unusedVariables false
theorem bits_call (b : Nat) (w : World) : (callFunc 133 #[.float .f32 b]).run Try.prog w = .ok (.value (.int .u32 b)) w := by
  rw [run_callFunc_extern (fn := Try.f133) (e := Extern.MathFloatBits.float32bits) Try.func133 (by kernel_rfl) (by kernel_rfl) (by kernel_rfl) (by kernel_rfl)]
  rfl
attribute [local go_sem] bits_call
set_option maxHeartbeats 4000000 in
theorem walk_FnExactCodeName (a0 : Int) (w0 : (Lit.int .i64 a0).wf = true) (w : World) :
    Calls Try.prog 5 #[.int .i64 a0] w fun e w' => e = .returned (.bool true) ∧ Below w.heap.size w w' := by
  by_cases h : a0 < 0
  · go_enter Try.func5, Try.ntmps5
    go_wp2
    go_ret
    refine ⟨rfl, ?_⟩
    repeat (first | exact Below.refl _ _ | refine Below.alloc ?_ (by simp) _ | refine Below.setCell ?_ (by simp) _)
  · by_cases h8 : 8 < a0
    · have hd : decide (a0 ≤ 8) = false := by simp; omega
      go_enter Try.func5, Try.ntmps5
      go_wp2
      go_ret
      refine ⟨rfl, ?_⟩
      repeat (first | exact Below.refl _ _ | refine Below.alloc ?_ (by simp) _ | refine Below.setCell ?_ (by simp) _)
    · rcases (by omega : a0 = 0 ∨ a0 = 1 ∨ a0 = 2 ∨ a0 = 3 ∨ a0 = 4 ∨ a0 = 5 ∨ a0 = 6 ∨ a0 = 7 ∨ a0 = 8) with rfl | rfl | rfl | rfl | rfl | rfl | rfl | rfl | rfl
      all_goals
        clear h h8 w0
        go_enter Try.func5, Try.ntmps5
        go_wp2
        go_ret
        refine ⟨rfl, ?_⟩
        repeat (first | exact Below.refl _ _ | refine Below.alloc ?_ (by simp) _ | refine Below.setCell ?_ (by simp) _)
theorem walk_FnExactIsPlain (a : Nat) (wa : (Lit.float .f32 a).wf = true) (w : World) :
    Calls Try.prog 7 #[.float .f32 a] w fun e w' => e = .returned (.bool true) ∧ Below w.heap.size w w' := by
  go_enter Try.func7, Try.ntmps7
  go_wp2
  all_goals
    go_ret
    exact ⟨rfl, Below.refl _ _⟩
theorem walk_FnExactIsPart (a : Nat) (wa : (Lit.float .f32 a).wf = true) (w : World) :
    Calls Try.prog 8 #[.float .f32 a] w fun e w' => e = .returned (.bool true) ∧ Below w.heap.size w w' := by
  go_enter Try.func8, Try.ntmps8
  go_wp2
  all_goals
    go_ret
    exact ⟨rfl, Below.refl _ _⟩
theorem qn_ne {a : Nat} (h : (FloatKind.f32.decode a).isNaN = false) : ((a : Int) == 2143289344) = false ∧ ((2143289344 : Int) == (a : Int)) = false := by
  have hq : (FloatKind.f32.decode 2143289344).isNaN = true := by decide +kernel
  have hne : a ≠ 2143289344 := fun e => by subst e; rw [h] at hq; cases hq
  exact ⟨by simp; omega, by simp; omega⟩
set_option maxRecDepth 100000 in
theorem walk_FnExactSameNumber (a : Nat) (wa : (Lit.float .f32 a).wf = true) (b : Nat) (wb : (Lit.float .f32 b).wf = true) (w : World) :
    Calls Try.prog 6 #[.float .f32 a, .float .f32 b] w fun e w' => e = .returned (.bool true) ∧ Below w.heap.size w w' := by
  cases ha : (FloatKind.f32.decode a).isNaN
  · have a1 := order_self ha
    have a2 := fun w => run_wide (P := Try.prog) w 27 73 a (by rw [Try.underlying27]; rfl) Try.underlying73 ha
    have a3 := order_self (wide_some ha).2
    cases hb : (FloatKind.f32.decode b).isNaN
    · have b1 := order_self hb
      have b2 := fun w => run_wide (P := Try.prog) w 27 73 b (by rw [Try.underlying27]; rfl) Try.underlying73 hb
      have b3 := order_self (wide_some hb).2
      clear ha hb wa wb
      go_enter Try.func6, Try.ntmps6
      go_wp2
      all_goals
        go_ret
        exact ⟨rfl, by first | exact Below.refl _ _ | exact (Below.refl _ _).drew | exact (Below.refl _ _).drew.drew | exact (Below.refl _ _).drew.drew.drew⟩
    · have b1 := order_nan_left b hb
      have b2 := fun w => run_nan_wide (P := Try.prog) w 27 73 b (by rw [Try.underlying27]; rfl) Try.underlying73 hb
      have b3 := fun w => order_nan_left (nanTo w b) (nanTo_nan w b)
      obtain ⟨q1, q2⟩ := qn_ne ha
      clear ha hb wa wb
      go_enter Try.func6, Try.ntmps6
      go_wp2
      all_goals
        go_ret
        exact ⟨rfl, by first | exact Below.refl _ _ | exact (Below.refl _ _).drew | exact (Below.refl _ _).drew.drew | exact (Below.refl _ _).drew.drew.drew⟩
  · have a1 := order_nan_left a ha
    have a2 := fun w => run_nan_wide (P := Try.prog) w 27 73 a (by rw [Try.underlying27]; rfl) Try.underlying73 ha
    have a3 := fun w => order_nan_left (nanTo w a) (nanTo_nan w a)
    cases hb : (FloatKind.f32.decode b).isNaN
    · have b1 := order_self hb
      have b2 := fun w => run_wide (P := Try.prog) w 27 73 b (by rw [Try.underlying27]; rfl) Try.underlying73 hb
      have b3 := order_self (wide_some hb).2
      obtain ⟨q1, q2⟩ := qn_ne hb
      clear ha hb wa wb
      go_enter Try.func6, Try.ntmps6
      go_wp2
      all_goals
        go_ret
        exact ⟨rfl, by first | exact Below.refl _ _ | exact (Below.refl _ _).drew | exact (Below.refl _ _).drew.drew | exact (Below.refl _ _).drew.drew.drew⟩
    · have b1 := order_nan_left b hb
      have b2 := fun w => run_nan_wide (P := Try.prog) w 27 73 b (by rw [Try.underlying27]; rfl) Try.underlying73 hb
      have b3 := fun w => order_nan_left (nanTo w b) (nanTo_nan w b)
      clear ha hb wa wb
      go_enter Try.func6, Try.ntmps6
      go_wp2
      all_goals
        go_ret
        exact ⟨rfl, by first | exact Below.refl _ _ | exact (Below.refl _ _).drew | exact (Below.refl _ _).drew.drew | exact (Below.refl _ _).drew.drew.drew⟩
end Go.Proofs.Ytdfookgncokgjaa
