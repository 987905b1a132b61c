/-
  Places behind eighths of a turn, both sides.
-/
import Derived.Test.YtdpgfbmelnmkdabDoorCpa
import Derived.Test.YtdpgfbmelnmkdabDoorBlk
namespace Go.Proofs.YtdpgfbmelnmkdabDoor
open Go.RowKit Go.ChangeShapes Go.WideShapes Go.Deep
attribute [local go_sem ↓] Go.wp_at_zero Go.wp_at_succ
set_option linter.unusedVariables false
set_option linter.unusedSimpArgs false
set_option maxRecDepth 100000
def pcA (k : Int) : Nat := match k.toNat with | 0 => 1065353216 | 1 => 1060438016 | 2 => 0 | 3 => 3207921664 | 4 => 3212836864 | 5 => 3207921664 | 6 => 0 | _ => 1060438016
def pcB (k : Int) : Nat := match k.toNat with | 0 => 0 | 1 => 1060438016 | 2 => 1065353216 | 3 => 1060438016 | 4 => 0 | 5 => 3207921664 | 6 => 3212836864 | _ => 3207921664
theorem neg_diag : Op.negFloat .f32 1060438016 = 3207921664 := by decide
def circV : Array Value := #[.float .f32 1065353216, .float .f32 0, .float .f32 1060438016, .float .f32 1060438016, .float .f32 0, .float .f32 1065353216, .float .f32 3207921664, .float .f32 1060438016, .float .f32 3212836864, .float .f32 0, .float .f32 3207921664, .float .f32 3207921664, .float .f32 0, .float .f32 3212836864, .float .f32 1060438016, .float .f32 3207921664]
theorem l07Place_any (k : Int) (h0 : 0 ≤ k) (h7 : k ≤ 7) (w : World) : Calls Tryd.prog 53 #[.int .i64 k] w (RV (.complex .f32 (pcA k) (pcB k)) w) := by
  rcases (by omega : k = 0 ∨ k = 1 ∨ k = 2 ∨ k = 3 ∨ k = 4 ∨ k = 5 ∨ k = 6 ∨ k = 7) with rfl | rfl | rfl | rfl | rfl | rfl | rfl | rfl
  all_goals
    go_enter Tryd.func53, Tryd.ntmps53
    go_wp2
    go_ret
    exact ⟨rfl, Below.refl _ _⟩
theorem circle_any (w : World) : Calls Tryd.prog 56 #[] w (RV (.agg circV) w) := by
  go_enter Tryd.func56, Tryd.ntmps56
  go_wp2
  refine bodyPost_ret (v := .agg circV) (by simp [results, Tryd.results56, go_sem, circV]) rfl ⟨rfl, ?_⟩
  (repeat (first | exact Below.refl _ _ | refine b_drewN ?_ _ | refine b_drew ?_ | refine b_alloc ?_ _ | refine b_set ?_ (by simp) _ _ | refine b_then ?_ (by assumption)))
theorem number_any (a b : Nat) (w : World) : Calls Tryd.prog 31 #[.agg #[.float .f32 a, .float .f32 b]] w (RV (.complex .f32 a b) w) := by
  go_enter Tryd.func31, Tryd.ntmps31
  go_wp2
  go_ret
  refine ⟨rfl, ?_⟩
  (repeat (first | exact Below.refl _ _ | refine b_drewN ?_ _ | refine b_drew ?_ | refine b_alloc ?_ _ | refine b_set ?_ (by simp) _ _ | refine b_then ?_ (by assumption)))
end Go.Proofs.YtdpgfbmelnmkdabDoor
