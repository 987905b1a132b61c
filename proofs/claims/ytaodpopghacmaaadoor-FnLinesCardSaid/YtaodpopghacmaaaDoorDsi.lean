/-
  The squares of speeds that FnLines draws.
-/
import Derived.Test.YtaodpopghacmaaaDoorBl
namespace Go.Proofs.YtaodpopghacmaaaDoor
open Go
set_option linter.unusedVariables false
set_option linter.unusedSimpArgs false
def sqB (x : Int) (d : Nat) : Bool := match floatBits .quo .f32 (floatOfInt .f32 x) d with | some r => psB r && decide (r < 1233125376) | none => false
theorem sq_all : ((List.range 200).all fun a => sqB (a : Int) 1090519040) = true := by decide +kernel
theorem lo_all : ((List.range 60).all fun a => sqB (1 + (a : Int)) 1098907648) = true := by decide +kernel
theorem hi_all : ((List.range 250).all fun a => sqB (1 + (a : Int)) 1082130432) = true := by decide +kernel
def hiB (a b : Nat) : Bool := match floatBits .quo .f32 (floatOfInt .f32 (1 + (a : Int))) 1098907648, floatBits .quo .f32 (floatOfInt .f32 (1 + (b : Int))) 1082130432 with
  | some l, some g => (match floatBits .add .f32 l g with | some h => psB h && oLt l h && decide (l < h) && decide (h < 1233125376) | none => false)
  | _, _ => false
end Go.Proofs.YtaodpopghacmaaaDoor
