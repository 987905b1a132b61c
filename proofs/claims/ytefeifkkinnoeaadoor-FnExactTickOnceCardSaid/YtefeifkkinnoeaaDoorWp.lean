/-
  Sizes and parts; the power of water.
-/
import Derived.Test.YtefeifkkinnoeaaDoorWv
import Derived.Test.YtefeifkkinnoeaaDoorSen
namespace Go.Proofs.YtefeifkkinnoeaaDoor
open Go.RowKit Go.ChangeShapes Go.WideShapes Go.Deep
attribute [local go_sem ↓] Go.wp_at_zero Go.wp_at_succ
set_option linter.unusedVariables false
set_option linter.unusedSimpArgs false
def partB (x : Nat) : Bool := oGe x 0 && oLe x 1065353216
theorem isPlainSize_any (m : Nat) (w : World) : Calls Tryd.prog 24 #[.float .f32 m] w fun e w' => e = .returned (.bool (psB m)) ∧ w = w' := by
  unfold psB oGe oLe
  go_enter Tryd.func24, Tryd.ntmps24
  go_wp2
  · go_ret
    exact ⟨rfl, rfl⟩
  · rename_i h
    go_ret
    refine ⟨?_, rfl⟩
    simp at h
    simp [h]
theorem l03Amount_any (m : Nat) (w : World) : Calls Tryd.prog 10 #[.float .f32 m] w fun e w' => e = .returned (.bool (psB m)) ∧ w = w' := by
  unfold psB oGe oLe
  go_enter Tryd.func10, Tryd.ntmps10
  go_wp2
  · go_ret
    exact ⟨rfl, rfl⟩
  · rename_i h
    go_ret
    refine ⟨?_, rfl⟩
    simp at h
    simp [h]
end Go.Proofs.YtefeifkkinnoeaaDoor
