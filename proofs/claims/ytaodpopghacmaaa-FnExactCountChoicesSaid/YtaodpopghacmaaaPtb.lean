/-
  Lists of wheels in whatever order; what is asked of a box.
-/
import Derived.Test.YtaodpopghacmaaaPrb
namespace Go.Proofs.Ytaodpopghacmaaa
open Go.RowKit Go.ChangeShapes Go.WideShapes Go.Deep
attribute [local go_sem ↓] Go.wp_at_zero Go.wp_at_succ
set_option linter.unusedVariables false
set_option linter.unusedSimpArgs false
set_option maxRecDepth 100000
/-- A list of wheels, in whatever order. -/
def TeZ (zs : List Int) : Prop := (2 ≤ zs.length ∧ zs.length ≤ 24) ∧ ∀ (i : Nat) (z : Int), zs[i]? = some z → 6 ≤ z ∧ z ≤ 200
theorem TeZ.of {zs : List Int} (h : okZ zs = true) : TeZ zs := ⟨(okZ_at h).1, fun i z hz => okZ_teeth h hz⟩
end Go.Proofs.Ytaodpopghacmaaa
