/-
  The greatest common divisor, the program's and the model's.
-/
import Derived.Test.YtjkgiknklkfipaaRows
import Derived.WalkKit
import Derived.WalkLawsBesides
import Derived.WalkSmall
import Derived.Below
import Derived.Lib.Hide
import Derived.Deep.QuietTactic
import Derived.BigQuiet
import Derived.Outline
namespace Go.Proofs.Ytjkgiknklkfipaa
open Go.RowKit
set_option linter.unusedVariables false
theorem gcd_step (x y : Nat) : Nat.gcd y (x % y) = Nat.gcd x y := by
  rw [Nat.gcd_comm x y, Nat.gcd_rec y x, Nat.gcd_comm]
theorem specGcd_any (a b : Nat) (w : World) (ha : a ≤ 9223372036854775807) (hb : b ≤ 9223372036854775807) :
    Calls Try.prog 87 #[.int .i64 a, .int .i64 b] w fun e w' => e = .returned (.int .i64 (Nat.gcd a b)) ∧ Below w.heap.size w w' := by
  go_enter Try.func87, Try.ntmps87
  go_wp2
  go_loopw [0, 1] (fun u v wr => ∃ x y : Nat, u = .int .i64 x ∧ v = .int .i64 y ∧ x ≤ 9223372036854775807 ∧ y ≤ 9223372036854775807 ∧ Nat.gcd x y = Nat.gcd a b ∧ Below w.heap.size w wr) (fun _ v _ => (intOf v).toNat)
  case atStart => exact ⟨a, b, rfl, rfl, ha, hb, rfl, Below.refl _ _⟩
  case round =>
    obtain ⟨x, y, rfl, rfl, hx, hy, hg, hbl⟩ := hrel
    have Hg := Lib.hid hg; clear hg
    have Hb := Lib.hid hbl; clear hbl
    by_cases hy0 : y = 0
    · subst hy0
      go_wp2
      go_ret
      have e := Hg.out
      rw [Nat.gcd_zero_right] at e
      exact ⟨by rw [e]; rfl, Hb.out⟩
    · have h1 : (1 : Int) ≤ (y : Int) := by omega
      go_wp2
      go_roundw
      case rel => exact ⟨y, x % y, rfl, by go_num, hy, by have := Nat.mod_le x y; omega, by rw [gcd_step]; exact Hg.out, Hb.out⟩
      case measure =>
        have := Nat.mod_lt x (Nat.pos_of_ne_zero hy0)
        simp [intOf]
        omega
theorem specGcd_int (a b : Int) (w : World) (ha : 0 ≤ a) (hb : 0 ≤ b) (ha' : a ≤ 9223372036854775807) (hb' : b ≤ 9223372036854775807) :
    Calls Try.prog 87 #[.int .i64 a, .int .i64 b] w fun e w' => e = .returned (.int .i64 (Nat.gcd a.toNat b.toNat)) ∧ Below w.heap.size w w' := by
  obtain ⟨x, rfl⟩ := Int.eq_ofNat_of_zero_le ha
  obtain ⟨y, rfl⟩ := Int.eq_ofNat_of_zero_le hb
  exact specGcd_any x y w (by omega) (by omega)
end Go.Proofs.Ytjkgiknklkfipaa
