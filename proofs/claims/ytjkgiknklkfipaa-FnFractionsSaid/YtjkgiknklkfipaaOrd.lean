/-
  Numbers, without a program: single-precision words that are numbers compare as their ranks, which are integers.
-/
import Derived.Test.YtjkgiknklkfipaaFlo
namespace Go.Proofs.Ytjkgiknklkfipaa
open Go
set_option linter.unusedVariables false
/-- The rank of a word: its rung, with its sign. -/
def rk (x : Nat) : Int := if x / 2147483648 % 2 == 1 then -((x % 2147483648 : Nat) : Int) else ((x % 2147483648 : Nat) : Int)
/-- How many of the least steps a rung is worth. -/
def vl (r : Nat) : Nat := if r < 8388608 then r else (8388608 + r % 8388608) * 2 ^ (r / 8388608 - 1)
theorem vl_mono {r s : Nat} (h : r < s) : vl r < vl s := by
  unfold vl
  by_cases hr : r < 8388608
  · rw [if_pos hr]
    by_cases hs : s < 8388608
    · rw [if_pos hs]; exact h
    · rw [if_neg hs]
      have hp : 1 ≤ 2 ^ (s / 8388608 - 1) := Nat.one_le_two_pow
      have : 8388608 * 1 ≤ (8388608 + s % 8388608) * 2 ^ (s / 8388608 - 1) := Nat.mul_le_mul (by omega) hp
      omega
  · have hs : ¬ s < 8388608 := by omega
    rw [if_neg hr, if_neg hs]
    by_cases hq : r / 8388608 = s / 8388608
    · rw [hq]
      exact Nat.mul_lt_mul_of_pos_right (by omega) (Nat.two_pow_pos _)
    · have hq' : r / 8388608 < s / 8388608 := by omega
      have h1 : (8388608 + r % 8388608) * 2 ^ (r / 8388608 - 1) < 16777216 * 2 ^ (r / 8388608 - 1) := Nat.mul_lt_mul_of_pos_right (by omega) (Nat.two_pow_pos _)
      have h2 : 16777216 * 2 ^ (r / 8388608 - 1) = 8388608 * 2 ^ (r / 8388608) := by
        have : r / 8388608 = (r / 8388608 - 1) + 1 := by omega
        rw [this, Nat.pow_succ]
        simp
        omega
      have h3 : 8388608 * 2 ^ (r / 8388608) ≤ (8388608 + s % 8388608) * 2 ^ (s / 8388608 - 1) := Nat.mul_le_mul (by omega) (Nat.pow_le_pow_right (by decide) (by omega))
      omega
theorem vl_lt {r s : Nat} : vl r < vl s ↔ r < s := by
  constructor
  · intro h
    rcases Nat.lt_trichotomy r s with h1 | h1 | h1
    · exact h1
    · subst h1; omega
    · have := vl_mono h1; omega
  · exact vl_mono
theorem vl_eq {r s : Nat} : vl r = vl s ↔ r = s := by
  constructor
  · intro h
    rcases Nat.lt_trichotomy r s with h1 | h1 | h1
    · have := vl_mono h1; omega
    · exact h1
    · have := vl_mono h1; omega
  · rintro rfl; rfl
theorem vl_zero : vl 0 = 0 := rfl
theorem cmp_congr {a b c d : Int} (h1 : a < b ↔ c < d) (h2 : a = b ↔ c = d) : compare a b = compare c d := by
  show compareOfLessAndEq a b = compareOfLessAndEq c d
  unfold compareOfLessAndEq
  by_cases x : a < b
  · rw [if_pos x, if_pos (h1.1 x)]
  · rw [if_neg x, if_neg (fun y => x (h1.2 y))]
    by_cases z : a = b
    · rw [if_pos z, if_pos (h2.1 z)]
    · rw [if_neg z, if_neg (fun y => z (h2.2 y))]
/-- A word that is a number: its sign, its digits, how many places above the least. -/
theorem read_number {x : Nat} (h : x % 2147483648 < 2139095040) : ∃ m k : Nat, Ieee.single.read x = .number (x / 2147483648 % 2 == 1) m (-149 + (k : Int)) ∧ m * 2 ^ k = vl (x % 2147483648) := by
  have hs : Ieee.Format.signWeight Ieee.single = 2147483648 := by decide
  have hb : Ieee.Format.binade Ieee.single = 8388608 := by decide
  have hi : Ieee.Format.infRung Ieee.single = 2139095040 := by decide
  have hl : Ieee.Format.leastPlace Ieee.single = -149 := by decide
  unfold Ieee.Format.read vl
  simp only [hs, hb, hi, hl]
  by_cases hr : x % 2147483648 < 8388608
  · rw [if_pos hr, if_pos hr]
    exact ⟨x % 2147483648, 0, rfl, Nat.mul_one _⟩
  · rw [if_neg hr, if_neg hr, if_pos h]
    exact ⟨_, _, rfl, rfl⟩
theorem read_inf {x : Nat} (h : x % 2147483648 = 2139095040) : Ieee.single.read x = .infinity (x / 2147483648 % 2 == 1) := by
  have hs : Ieee.Format.signWeight Ieee.single = 2147483648 := by decide
  have hb : Ieee.Format.binade Ieee.single = 8388608 := by decide
  have hi : Ieee.Format.infRung Ieee.single = 2139095040 := by decide
  unfold Ieee.Format.read
  simp only [hs, hb, hi]
  rw [if_neg (by omega), if_neg (by omega), if_pos h]
theorem notNan_rung {x : Nat} (h : nan32 x = false) : x % 2147483648 ≤ 2139095040 := by
  rcases Nat.lt_or_ge 2139095040 (x % 2147483648) with h1 | h1
  · have := isNaN32_of (n := x) (by omega)
    rw [this] at h
    cases h
  · exact h1
theorem signed_scale (s : Bool) (m u c : Nat) : Ieee.signed s m (u - c) * (2 ^ c : Nat) = (if s then -((m * 2 ^ (u - c) * 2 ^ c : Nat) : Int) else ((m * 2 ^ (u - c) * 2 ^ c : Nat) : Int)) := by
  unfold Ieee.signed
  rw [Nat.shiftLeft_eq]
  cases s <;> simp [Int.neg_mul]
theorem sgn_cmp (s t : Bool) (a b : Nat) : compare (if s then -((vl a : Nat) : Int) else ((vl a : Nat) : Int)) (if t then -((vl b : Nat) : Int) else ((vl b : Nat) : Int)) = compare (if s then -(a : Int) else (a : Int)) (if t then -(b : Int) else (b : Int)) := by
  have h1 := @vl_lt a b
  have h2 := @vl_lt b a
  have h3 := @vl_eq a b
  have a0 : vl a = 0 ↔ a = 0 := by have := @vl_eq a 0; rwa [vl_zero] at this
  have b0 : vl b = 0 ↔ b = 0 := by have := @vl_eq b 0; rwa [vl_zero] at this
  cases s <;> cases t <;> simp only [Bool.false_eq_true, if_false, if_true] <;> apply cmp_congr <;> omega
theorem ord_rk {x y : Nat} (hx : nan32 x = false) (hy : nan32 y = false) : FloatKind.f32.format.order x y = some (compare (rk x) (rk y)) := by
  have rx := notNan_rung hx
  have ry := notNan_rung hy
  show (Ieee.single.read x).order (Ieee.single.read y) = _
  unfold rk
  by_cases ix : x % 2147483648 = 2139095040
  · rw [read_inf ix, ix]
    by_cases iy : y % 2147483648 = 2139095040
    · rw [read_inf iy, iy]
      generalize (x / 2147483648 % 2 == 1) = s
      generalize (y / 2147483648 % 2 == 1) = t
      cases s <;> cases t <;> rfl
    · obtain ⟨n, l, e, hv⟩ := read_number (x := y) (by omega)
      rw [e]
      generalize (x / 2147483648 % 2 == 1) = s
      generalize (y / 2147483648 % 2 == 1) = t
      have hy2 : y % 2147483648 < 2139095040 := by omega
      generalize y % 2147483648 = q at hy2
      simp only [Ieee.Datum.order]
      cases s
      · simp only [Bool.false_eq_true, if_false]
        congr 1
        symm
        refine Int.compare_eq_gt.2 ?_
        cases t <;> simp <;> omega
      · simp only [if_true]
        congr 1
        symm
        refine Int.compare_eq_lt.2 ?_
        cases t <;> simp <;> omega
  · obtain ⟨m, k, e, hv⟩ := read_number (x := x) (by omega)
    rw [e]
    by_cases iy : y % 2147483648 = 2139095040
    · rw [read_inf iy, iy]
      generalize (x / 2147483648 % 2 == 1) = s
      generalize (y / 2147483648 % 2 == 1) = t
      have hx2 : x % 2147483648 < 2139095040 := by omega
      generalize x % 2147483648 = q at hx2
      simp only [Ieee.Datum.order]
      cases t
      · simp only [Bool.false_eq_true, if_false]
        congr 1
        symm
        refine Int.compare_eq_lt.2 ?_
        cases s <;> simp <;> omega
      · simp only [if_true]
        congr 1
        symm
        refine Int.compare_eq_gt.2 ?_
        cases s <;> simp <;> omega
    · obtain ⟨n, l, e2, hv2⟩ := read_number (x := y) (by omega)
      rw [e2]
      simp only [Ieee.Datum.order]
      congr 1
      generalize (x / 2147483648 % 2 == 1) = s
      generalize (y / 2147483648 % 2 == 1) = t
      rw [← sgn_cmp, ← hv, ← hv2]
      have hc : min (-149 + (k : Int)) (-149 + (l : Int)) = -149 + ((min k l : Nat) : Int) := by omega
      rw [hc]
      have hk : (-149 + (k : Int) - (-149 + ((min k l : Nat) : Int))).toNat = k - min k l := by omega
      have hl : (-149 + (l : Int) - (-149 + ((min k l : Nat) : Int))).toNat = l - min k l := by omega
      rw [hk, hl]
      generalize hcm : min k l = c
      have ck : c ≤ k := by omega
      have cl : c ≤ l := by omega
      have p1 : m * 2 ^ k = m * 2 ^ (k - c) * 2 ^ c := by rw [Nat.mul_assoc, ← Nat.pow_add]; congr 2; omega
      have p2 : n * 2 ^ l = n * 2 ^ (l - c) * 2 ^ c := by rw [Nat.mul_assoc, ← Nat.pow_add]; congr 2; omega
      rw [p1, p2, ← signed_scale, ← signed_scale]
      have hp : (0 : Int) < ((2 ^ c : Nat) : Int) := by exact_mod_cast Nat.two_pow_pos c
      generalize ((2 ^ c : Nat) : Int) = z at hp
      exact cmp_congr ⟨fun h => Int.mul_lt_mul_of_pos_right h hp, fun h => Int.lt_of_mul_lt_mul_right h (Int.le_of_lt hp)⟩ ⟨fun h => by rw [h], fun h => Int.eq_of_mul_eq_mul_right (by omega) h⟩
end Go.Proofs.Ytjkgiknklkfipaa
