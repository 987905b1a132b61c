/-
  The laws of a number's text and of a number that is read.
-/
import Derived.Test.YtdbcblfinflieaaGreatDoorTxi
import Derived.Test.YtdbcblfinflieaaGreatDoorBase
namespace Go.Proofs.YtdbcblfinflieaaGreatDoor
open Go.RowKit Go.ChangeShapes Go.WideShapes Go.Deep
attribute [local go_sem ↓] Go.wp_at_zero Go.wp_at_succ
set_option linter.unusedVariables false
set_option linter.unusedSimpArgs false
set_option maxRecDepth 100000
theorem f32_lt {a : Nat} (h : (Lit.float .f32 a).wf = true) : a < 4294967296 := by
  have h2 : (Lit.float .f32 a).wf = decide (a < 4294967296) := by rfl
  rw [h2] at h
  exact of_decide_eq_true h
end Go.Proofs.YtdbcblfinflieaaGreatDoor
