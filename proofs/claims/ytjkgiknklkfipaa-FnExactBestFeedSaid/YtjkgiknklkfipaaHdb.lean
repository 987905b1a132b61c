/-
  GrindDay: the model's side.
-/
import Derived.Test.YtjkgiknklkfipaaHda
import Derived.Deep.DeepCutAuto
namespace Go.Proofs.Ytjkgiknklkfipaa
open Go.RowKit Go.ChangeShapes Go.WideShapes Go.Deep
attribute [local go_sem ↓] Go.wp_at_zero Go.wp_at_succ
set_option linter.unusedVariables false
set_option linter.unusedSimpArgs false
set_option maxRecDepth 100000
end Go.Proofs.Ytjkgiknklkfipaa
