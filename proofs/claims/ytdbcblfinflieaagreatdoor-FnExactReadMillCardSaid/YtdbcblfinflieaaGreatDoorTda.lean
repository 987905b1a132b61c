/-
  Decimal numerals: the program's writers and readers, the model's.
-/
import Derived.Test.YtdbcblfinflieaaGreatDoorTxm
import Derived.Test.YtdbcblfinflieaaGreatDoorTxj
import Derived.Deep.RegionHeld3
import Derived.Deep.RegionLaw
namespace Go.Proofs.YtdbcblfinflieaaGreatDoor
open Go.RowKit Go.ChangeShapes Go.WideShapes Go.Deep
attribute [local go_sem ↓] Go.wp_at_zero Go.wp_at_succ
set_option linter.unusedVariables false
set_option linter.unusedSimpArgs false
set_option maxRecDepth 100000
theorem grow_b (w : World) (k : Nat) (os : Array Obj) : Below w.heap.size w (Go.Sort.grow (w.drewN k) os) := by
  refine b_then (b_drewN (Below.refl _ _) k) ⟨rfl, rfl, rfl, by simp, fun i hi => ?_⟩
  show ((w.drewN k).heap ++ os)[i]? = _
  rw [Array.getElem?_append_left hi]
theorem itoa_nat (n : Nat) : Lib.itoa (n : Int) = Lib.decDigits n := by
  unfold Lib.itoa
  rw [if_neg (by omega)]
  simp
theorem itoa_any (n : Nat) (hn : n ≤ 9223372036854775807) (w : World) (hT : TbAt w) : Calls Tryz.prog 31 #[.int .i64 n] w (RV (.string (bsOf (Lib.decDigits n))) w) := by
  refine (Tryz.strconv_Itoa n (by omega) (by omega) w hT.pw).mono ?_
  rintro e w' ⟨rfl, k, os, rfl⟩
  rw [itoa_nat]
  exact ⟨rfl, grow_b _ _ _⟩
end Go.Proofs.YtdbcblfinflieaaGreatDoor
