/-
  Sizes and parts; the power of water.
-/
import Derived.Test.YtjkgiknklkfipaaDoorWv
import Derived.Test.YtjkgiknklkfipaaDoorSen
namespace Go.Proofs.YtjkgiknklkfipaaDoor
open Go.RowKit Go.ChangeShapes Go.WideShapes Go.Deep
attribute [local go_sem ↓] Go.wp_at_zero Go.wp_at_succ
set_option linter.unusedVariables false
set_option linter.unusedSimpArgs false
def partB (x : Nat) : Bool := oGe x 0 && oLe x 1065353216
theorem isPlainSize_any (m : Nat) (w : World) : Calls Tryd.prog 81 #[.float .f32 m] w fun e w' => e = .returned (.bool (psB m)) ∧ w = w' := by
  unfold psB oGe oLe
  go_enter Tryd.func81, Tryd.ntmps81
  go_wp2
  · go_ret
    exact ⟨rfl, rfl⟩
  · rename_i h
    go_ret
    refine ⟨?_, rfl⟩
    simp at h
    simp [h]
theorem l03Amount_any (m : Nat) (w : World) : Calls Tryd.prog 76 #[.float .f32 m] w fun e w' => e = .returned (.bool (psB m)) ∧ w = w' := by
  unfold psB oGe oLe
  go_enter Tryd.func76, Tryd.ntmps76
  go_wp2
  · go_ret
    exact ⟨rfl, rfl⟩
  · rename_i h
    go_ret
    refine ⟨?_, rfl⟩
    simp at h
    simp [h]
theorem isPart_any (m : Nat) (w : World) : Calls Tryd.prog 46 #[.float .f32 m] w fun e w' => e = .returned (.bool (partB m)) ∧ w = w' := by
  unfold partB oGe oLe
  go_enter Tryd.func46, Tryd.ntmps46
  go_wp2
  · go_ret
    exact ⟨rfl, rfl⟩
  · rename_i h
    go_ret
    refine ⟨?_, rfl⟩
    simp at h
    simp [h]
theorem l01Part_any (m : Nat) (w : World) : Calls Tryd.prog 36 #[.float .f32 m] w fun e w' => e = .returned (.bool (partB m)) ∧ w = w' := by
  unfold partB oGe oLe
  go_enter Tryd.func36, Tryd.ntmps36
  go_wp2
  · go_ret
    exact ⟨rfl, rfl⟩
  · rename_i h
    go_ret
    refine ⟨?_, rfl⟩
    simp at h
    simp [h]
end Go.Proofs.YtjkgiknklkfipaaDoor
