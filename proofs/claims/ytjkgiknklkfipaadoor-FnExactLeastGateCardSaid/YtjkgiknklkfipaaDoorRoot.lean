/-
  Square roots of single-precision numbers by way of double precision, without a program: nothing is drawn, and how great they are.
-/
import Derived.Test.YtjkgiknklkfipaaDoorMag
namespace Go.Proofs.YtjkgiknklkfipaaDoor
open Go
set_option linter.unusedVariables false
set_option linter.unusedSimpArgs false
def rgd (x : Nat) : Nat := x % 9223372036854775808
theorem rgd_word (neg : Bool) {r : Nat} (h : r < 9223372036854775808) : rgd (Ieee.double.word neg r) = r := word_mod Ieee.double neg (by rw [show Ieee.Format.signWeight Ieee.double = 9223372036854775808 by decide]; exact h)
theorem min_wordd (s : Bool) (a C : Nat) (h : a ≤ C * 4503599627370496) (hC : C ≤ 2046) : rgd (Ieee.double.word s (min a 9218868437227405312)) ≤ C * 4503599627370496 := by
  rw [rgd_word s (Nat.lt_of_le_of_lt (Nat.min_le_right _ _) (by decide))]
  exact Nat.le_trans (Nat.min_le_left _ _) h
theorem nearest_led (s : Bool) {mag k C : Nat} {place : Int} (hm : mag < 2 ^ k) (hk : place + (k : Int) ≤ (C : Int) - 1023) (h1 : 1 ≤ C) (h2 : C ≤ 2046) :
    rgd (Ieee.double.nearest s mag place) ≤ C * 4503599627370496 := by
  have hb : Ieee.Format.binade Ieee.double = 4503599627370496 := by decide
  have hi : Ieee.Format.infRung Ieee.double = 9218868437227405312 := by decide
  have hl : Ieee.Format.leastPlace Ieee.double = -1074 := by decide
  have hf : (Ieee.double.fractionBits : Int) = 52 := rfl
  unfold Ieee.Format.nearest
  dsimp only
  split
  · rw [rgd_word s (by decide)]; exact Nat.zero_le _
  · rename_i h0
    have hlog : mag.log2 < k := (Nat.log2_lt h0).2 hm
    have hself : mag < 2 ^ (mag.log2 + 1) := Nat.lt_log2_self
    rw [hl, hb, hi, hf]
    have key : ((max (place + (mag.log2 : Int) - 52) (-1074)) - -1074).toNat * 4503599627370496 + Ieee.Toward.even.cut s (mag <<< (place - max (place + (mag.log2 : Int) - 52) (-1074)).toNat) ((max (place + (mag.log2 : Int) - 52) (-1074)) - place).toNat ≤ C * 4503599627370496 := by
      by_cases hc : -1074 ≤ place + (mag.log2 : Int) - 52
      · rw [Int.max_eq_left hc]
        have hcut : Ieee.Toward.even.cut s (mag <<< (place - (place + (mag.log2 : Int) - 52)).toNat) ((place + (mag.log2 : Int) - 52) - place).toNat ≤ 2 ^ 53 := by
          refine cut_le _ _ _ _ ?_
          rw [Nat.shiftLeft_eq]
          have e1 : mag * 2 ^ (place - (place + (mag.log2 : Int) - 52)).toNat < 2 ^ (mag.log2 + 1) * 2 ^ (place - (place + (mag.log2 : Int) - 52)).toNat := Nat.mul_lt_mul_of_pos_right hself (Nat.two_pow_pos _)
          refine Nat.lt_of_lt_of_le e1 ?_
          rw [← Nat.pow_add]
          refine Nat.pow_le_pow_right (by decide) ?_
          omega
        have e2 : ((place + (mag.log2 : Int) - 52) - -1074).toNat + 2 ≤ C := by omega
        have e3 : (((place + (mag.log2 : Int) - 52) - -1074).toNat + 2) * 4503599627370496 ≤ C * 4503599627370496 := Nat.mul_le_mul_right _ e2
        have e5 : (2 : Nat) ^ 53 = 2 * 4503599627370496 := by decide
        rw [e5] at hcut
        rw [Nat.add_mul] at e3
        refine Nat.le_trans (Nat.add_le_add_left hcut _) e3
      · rw [Int.max_eq_right (by omega)]
        have hcut : Ieee.Toward.even.cut s (mag <<< (place - -1074).toNat) (-1074 - place).toNat ≤ 2 ^ 52 := by
          refine cut_le _ _ _ _ ?_
          rw [Nat.shiftLeft_eq]
          have e1 : mag * 2 ^ (place - -1074).toNat < 2 ^ (mag.log2 + 1) * 2 ^ (place - -1074).toNat := Nat.mul_lt_mul_of_pos_right hself (Nat.two_pow_pos _)
          refine Nat.lt_of_lt_of_le e1 ?_
          rw [← Nat.pow_add]
          refine Nat.pow_le_pow_right (by decide) ?_
          omega
        have e3 : 1 * 4503599627370496 ≤ C * 4503599627370496 := Nat.mul_le_mul_right _ h1
        have e4 : ((-1074 : Int) - -1074).toNat = 0 := by decide
        rw [e4, Nat.zero_mul, Nat.zero_add]
        refine Nat.le_trans hcut (Nat.le_trans ?_ e3)
        exact Nat.le_of_eq (by decide)
    revert key
    generalize ((max (place + (mag.log2 : Int) - 52) (-1074)) - -1074).toNat * 4503599627370496 + Ieee.Toward.even.cut s (mag <<< (place - max (place + (mag.log2 : Int) - 52) (-1074)).toNat) ((max (place + (mag.log2 : Int) - 52) (-1074)) - place).toNat = T
    intro key
    exact min_wordd s T C key h2
theorem read_smalld {x C : Nat} (h : rgd x < C * 4503599627370496) (h1 : 1 ≤ C) (h2 : C ≤ 2047) : ∃ (m k : Nat) (e : Int), Ieee.double.read x = .number (x / 9223372036854775808 % 2 == 1) m e ∧ m < 2 ^ k ∧ e + (k : Int) ≤ (C : Int) - 1023 := by
  have hs : Ieee.Format.signWeight Ieee.double = 9223372036854775808 := by decide
  have hb : Ieee.Format.binade Ieee.double = 4503599627370496 := by decide
  have hi : Ieee.Format.infRung Ieee.double = 9218868437227405312 := by decide
  have hl : Ieee.Format.leastPlace Ieee.double = -1074 := by decide
  have hC : C * 4503599627370496 ≤ 2047 * 4503599627370496 := Nat.mul_le_mul_right _ h2
  have hr : x % 9223372036854775808 < C * 4503599627370496 := h
  unfold Ieee.Format.read
  simp only [hs, hb, hi, hl]
  split
  · rename_i hlt
    exact ⟨_, 52, -1074, rfl, by omega, by omega⟩
  · rename_i hge
    rw [if_pos (by omega)]
    refine ⟨_, 53, _, rfl, by omega, ?_⟩
    have : x % 9223372036854775808 / 4503599627370496 < C := Nat.div_lt_of_lt_mul (by omega)
    omega
def sgnd (x : Nat) : Bool := x / 9223372036854775808 % 2 == 1
theorem sgnd_nearest (s : Bool) (m : Nat) (e : Int) : sgnd (Ieee.double.nearest s m e) = s := by
  have hw : ∀ r, r ≤ 9218868437227405312 → sgnd (Ieee.double.word s r) = s := fun r h => word_neg Ieee.double s (by rw [show Ieee.Format.signWeight Ieee.double = 9223372036854775808 by decide]; omega)
  unfold Ieee.Format.nearest
  dsimp only
  split
  · exact hw _ (by decide)
  · refine hw _ (Nat.le_trans (Nat.min_le_right _ _) ?_)
    rw [show Ieee.Format.infRung Ieee.double = 9218868437227405312 by decide]
    exact Nat.le_refl _
theorem rootFrom_sq (n : Nat) : ∀ (todo root : Nat), root * root ≤ n → Ieee.Datum.rootFrom n todo root * Ieee.Datum.rootFrom n todo root ≤ n
  | 0, root, h => h
  | todo + 1, root, h => by
    unfold Ieee.Datum.rootFrom
    dsimp only
    split
    · rename_i h1
      exact rootFrom_sq n todo _ h1
    · exact rootFrom_sq n todo _ h
theorem lt_of_sq {a L n : Nat} (h : a * a ≤ n) (hn : n < 2 ^ (2 * L)) : a < 2 ^ L := by
  rcases Nat.lt_or_ge a (2 ^ L) with h1 | h1
  · exact h1
  · have h2 : 2 ^ L * 2 ^ L ≤ a * a := Nat.mul_le_mul h1 h1
    rw [← Nat.pow_add, ← Nat.two_mul] at h2
    omega
/-- The root of a number that is not negative. -/
theorem root_le (digits : Nat) {m k : Nat} {e B : Int} (hm : m < 2 ^ k) (hk : e + (k : Int) ≤ 2 * B) : ∃ (R j : Nat) (p : Int), (Ieee.Datum.number false m e).root digits = some (.number false R p) ∧ R < 2 ^ j ∧ (R = 0 ∨ p + (j : Int) ≤ B + 1) := by
  unfold Ieee.Datum.root
  by_cases h0 : m = 0
  · subst h0
    exact ⟨0, 0, e, by simp, by decide, .inl rfl⟩
  · simp only [h0, if_false, Bool.false_eq_true]
    generalize 2 * digits - m.log2 + ((e - ((2 * digits - m.log2 : Nat) : Int)) % 2).toNat = more
    generalize hw : Ieee.Datum.rootFrom (m <<< more) ((m <<< more).log2 / 2 + 1) 0 = w
    have hsq : w * w ≤ m <<< more := by rw [← hw]; exact rootFrom_sq _ _ _ (Nat.zero_le _)
    have hn : m <<< more < 2 ^ (2 * ((k + more + 1) / 2)) := by
      rw [Nat.shiftLeft_eq]
      have e1 : m * 2 ^ more < 2 ^ k * 2 ^ more := Nat.mul_lt_mul_of_pos_right hm (Nat.two_pow_pos _)
      rw [← Nat.pow_add] at e1
      exact Nat.lt_of_lt_of_le e1 (Nat.pow_le_pow_right (by decide) (by omega))
    have hlt := lt_of_sq hsq hn
    refine ⟨_, (k + more + 1) / 2 + 1, _, rfl, ?_, ?_⟩
    · have hb : (w * w != m <<< more).toNat ≤ 1 := Bool.toNat_le _
      rw [Nat.pow_succ]
      omega
    · right
      omega
def rootN (x : Nat) : Nat := (Ieee.double.sqrt (wide x)).getD 0
def narrowN (x : Nat) : Nat := (floatToFloatBits .f64 x .f32).getD 0
def fastOf (x : Nat) : Nat := narrowN (rootN x)
theorem wide_word {x C : Nat} (hx : rg x < C * 8388608) (h1 : 1 ≤ C) (h2 : C ≤ 255) (hs : (x / 2147483648 % 2 == 1) = false) :
    ∃ (m k : Nat) (e : Int), Ieee.double.read (wide x) = .number false m e ∧ m < 2 ^ k ∧ e + (k : Int) ≤ (C : Int) - 126 := by
  obtain ⟨m, k, e, r, b, c, _⟩ := read_small hx h1 h2
  have hn : nan32 x = false := nan_rg (by have : C * 8388608 ≤ 255 * 8388608 := Nat.mul_le_mul_right _ h2; omega)
  have hw := (wide_some hn).1
  have e1 : wide x = Ieee.double.nearest false m e := by
    unfold floatToFloatBits at hw
    rw [if_neg (by decide)] at hw
    have hd : FloatKind.f32.decode x = .number false m e := by
      show Ieee.single.read x = _
      rw [r, hs]
    simp only [hd] at hw
    split at hw
    · cases hw
    · exact (Option.some.inj hw).symm
  have b1 := nearest_led false b (C := C + 896) (place := e) (by omega) (by omega) (by omega)
  rw [← e1] at b1
  obtain ⟨m', k', e', r', b', c'⟩ := read_smalld (x := wide x) (C := C + 897) (by omega) (by omega) (by omega)
  have hsg : (wide x / 9223372036854775808 % 2 == 1) = false := by rw [e1]; exact sgnd_nearest false m e
  rw [hsg] at r'
  exact ⟨m', k', e', r', b', by omega⟩
theorem enc32 (s : Bool) (m : Nat) (e : Int) : FloatKind.f32.encode (.number s m e) = Ieee.single.nearest s m e := rfl
theorem dec64 (x : Nat) : FloatKind.f64.decode x = Ieee.double.read x := rfl
theorem dec32 (x : Nat) : FloatKind.f32.decode x = Ieee.single.read x := rfl
theorem nearest0d (p : Int) : Ieee.double.nearest false 0 p = 0 := rfl
theorem word32_lt {r : Nat} (h : r ≤ 2139095040) : Ieee.single.word false r < 2147483648 := by
  show r < 2147483648
  omega
theorem nearest_lt (m : Nat) (e : Int) : Ieee.single.nearest false m e < 2147483648 := by
  unfold Ieee.Format.nearest
  dsimp only
  split
  · exact word32_lt (Nat.zero_le _)
  · refine word32_lt (Nat.le_trans (Nat.min_le_right _ _) ?_)
    rw [show Ieee.Format.infRung Ieee.single = 2139095040 by decide]
    exact Nat.le_refl _
theorem notInf_small {x C : Nat} (h : rg x ≤ C * 8388608) (hC : C ≤ 254) : (Ieee.single.read x).isInfinity = false := by
  have hD3 : C * 8388608 ≤ 254 * 8388608 := Nat.mul_le_mul_right _ hC
  have hr : rg x < 2139095040 := by omega
  obtain ⟨a, b, hread, _⟩ := read_number (x := x) hr
  rw [hread]
  rfl
theorem narrow_some {x m : Nat} {e : Int} {C : Nat} (r : Ieee.double.read x = .number false m e) (h : rg (Ieee.single.nearest false m e) ≤ C * 8388608) (hC : C ≤ 254) : floatToFloatBits .f64 x .f32 = some (Ieee.single.nearest false m e) := by
  unfold floatToFloatBits
  rw [if_neg (by decide), dec64, r]
  dsimp only
  rw [enc32, dec32, notInf_small h hC]
  rfl
theorem sqrt_some {x R : Nat} {p : Int} {d : Ieee.Datum} (r : Ieee.double.read x = d) (hr : d.root (Ieee.double.fractionBits + 2) = some (.number false R p)) : Ieee.double.sqrt x = some (Ieee.double.nearest false R p) := by
  unfold Ieee.Format.sqrt
  rw [r, hr]
  rfl
theorem root_some {x C D : Nat} (hx : rg x < C * 8388608) (h1 : 1 ≤ C) (h2 : C ≤ 255) (hs : (x / 2147483648 % 2 == 1) = false) (hD : (C : Int) - 126 ≤ 2 * ((D : Int) - 128)) (hD1 : 1 ≤ D) (hD2 : D ≤ 253) :
    Ieee.double.sqrt (wide x) = some (rootN x) ∧ floatToFloatBits .f64 (rootN x) .f32 = some (fastOf x) ∧ rg (fastOf x) ≤ (D + 1) * 8388608 ∧ fastOf x < 2147483648 := by
  obtain ⟨m, k, e, r, b, c⟩ := wide_word hx h1 h2 hs
  obtain ⟨R, j, p, hr, hR, hp⟩ := root_le (Ieee.double.fractionBits + 2) b (e := e) (B := (D : Int) - 128) (by omega)
  have e1 := sqrt_some r hr
  have e2 : rootN x = Ieee.double.nearest false R p := by unfold rootN; rw [e1]; rfl
  have b1 : rgd (rootN x) ≤ (D + 896) * 4503599627370496 := by
    rw [e2]
    rcases hp with h0 | hp
    · subst h0
      rw [nearest0d]
      exact Nat.zero_le _
    · exact nearest_led false hR (C := D + 896) (place := p) (by omega) (by omega) (by omega)
  obtain ⟨m', k', e', r', b', c'⟩ := read_smalld (x := rootN x) (C := D + 897) (by omega) (by omega) (by omega)
  have hsg : (rootN x / 9223372036854775808 % 2 == 1) = false := by rw [e2]; exact sgnd_nearest false R p
  rw [hsg] at r'
  have b2 := nearest_le false b' (C := D + 1) (place := e') (by omega) (by omega) (by omega)
  have e3 := narrow_some r' b2 (by omega)
  have e4 : fastOf x = Ieee.single.nearest false m' e' := by unfold fastOf narrowN; rw [e3]; rfl
  refine ⟨by rw [e1, e2], by rw [e3, e4], ?_, ?_⟩
  · rw [e4]; exact b2
  · rw [e4]; exact nearest_lt _ _
end Go.Proofs.YtjkgiknklkfipaaDoor
