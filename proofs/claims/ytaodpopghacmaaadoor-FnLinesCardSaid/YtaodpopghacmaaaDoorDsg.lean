/-
  A line at rest: what nought times, over, and less nought is.
-/
import Derived.Test.YtaodpopghacmaaaDoorOnem
namespace Go.Proofs.YtaodpopghacmaaaDoor
open Go
set_option linter.unusedVariables false
set_option linter.unusedSimpArgs false
theorem read_nil : Ieee.single.read 0 = .number false 0 (-149) := by decide +kernel
theorem read_plain {x : Nat} (h1 : 8388608 ≤ x) (h2 : x < 2139095040) : ∃ m e, m ≠ 0 ∧ Ieee.single.read x = .number false m e := by
  have hs : Ieee.Format.signWeight Ieee.single = 2147483648 := by decide
  have hb : Ieee.Format.binade Ieee.single = 8388608 := by decide
  have hi : Ieee.Format.infRung Ieee.single = 2139095040 := by decide
  have hl : Ieee.Format.leastPlace Ieee.single = -149 := by decide
  simp only [Ieee.Format.read, hs, hb, hi, hl]
  have e1 : (x / 2147483648 % 2 == 1) = false := by
    rw [beq_eq_false_iff_ne]
    omega
  have e2 : x % 2147483648 = x := Nat.mod_eq_of_lt (by omega)
  rw [e1, e2, if_neg (by omega), if_pos h2]
  exact ⟨_, _, by omega, rfl⟩
theorem nearest_nil (s : Bool) (e : Int) : Ieee.single.nearest s 0 e = Ieee.single.word s 0 := by
  unfold Ieee.Format.nearest
  dsimp only
  rw [if_pos (by simp)]
theorem z_mul {x : Nat} (h1 : 8388608 ≤ x) (h2 : x < 2139095040) : f2 .mul 0 x = 0 := by
  obtain ⟨m, e, hm, hx⟩ := read_plain h1 h2
  unfold f2 floatBits
  simp only [FloatKind.format, Ieee.Format.mul, read_nil, hx]
  show (some (Ieee.single.write (.number (false ^^ false) (0 * m) (-149 + e)))).getD qn = 0
  rw [Nat.zero_mul, Option.getD_some, write_number, nearest_nil]
  decide
theorem z_quo {x : Nat} (h1 : 8388608 ≤ x) (h2 : x < 2139095040) : f2 .quo 0 x = 0 := by
  obtain ⟨m, e, hm, hx⟩ := read_plain h1 h2
  unfold f2 floatBits
  simp only [FloatKind.format, Ieee.Format.div, read_nil, hx, Ieee.Datum.quotient, if_neg hm]
  rw [Option.map_some, Option.getD_some, write_number]
  simp only [Nat.zero_shiftLeft, Nat.zero_div, Nat.zero_mod, Nat.zero_mul]
  simp [nearest_nil]
  try decide
theorem z_sub : f2 .sub (cn 0) 0 = 0 := by decide +kernel
theorem z_sub2 : f2 .sub 0 0 = 0 := by decide +kernel
theorem z_add : f2 .add (cn 1065353216) 0 = cn 1065353216 := by decide +kernel
theorem z_one : f2 .mul 0 (cn 1065353216) = 0 := by decide +kernel
theorem z_cn : cn 0 = 0 := by decide +kernel
end Go.Proofs.YtaodpopghacmaaaDoor
