/-
  Numbers, without a program: what the model's floats are when they are compared, and when one is no number.
-/
import Derived.Laws.FloatArith
namespace Go.Proofs.Ytjkgiknklkfipaa
open Go
theorem order_self {k : FloatKind} {b : Nat} (h : (k.decode b).isNaN = false) : k.format.order b b = some .eq := by
  unfold FloatKind.decode at h
  unfold Ieee.Format.order
  cases hd : k.format.read b with
  | nan s f => rw [hd] at h; simp [Ieee.Datum.isNaN] at h
  | infinity s => simp [Ieee.Datum.order]
  | number s m e => simp [Ieee.Datum.order]
theorem order_nan_left {k : FloatKind} {a : Nat} (b : Nat) (h : (k.decode a).isNaN = true) : k.format.order a b = none := by
  unfold FloatKind.decode at h
  unfold Ieee.Format.order
  cases hd : k.format.read a with
  | nan s f => rfl
  | infinity s => rw [hd] at h; simp [Ieee.Datum.isNaN] at h
  | number s m e => rw [hd] at h; simp [Ieee.Datum.isNaN] at h
theorem order_nan_right {k : FloatKind} {b : Nat} (a : Nat) (h : (k.decode b).isNaN = true) : k.format.order a b = none := by
  unfold FloatKind.decode at h
  unfold Ieee.Format.order
  cases hd : k.format.read b with
  | nan s f => cases k.format.read a <;> rfl
  | infinity s => rw [hd] at h; simp [Ieee.Datum.isNaN] at h
  | number s m e => rw [hd] at h; simp [Ieee.Datum.isNaN] at h
/-- The NaN that the model draws where a NaN is turned into the other kind. -/
def nanTo (w : World) (b : Nat) : Nat := Question.cut (.nanConv .f64 b) (w.tape w.drawn (.nanConv .f64 b))
theorem read_nan (f : Ieee.Format) {n : Nat} (hb : f.binade ≤ f.infRung) (h : f.infRung < n % f.signWeight) : (f.read n).isNaN = true := by
  unfold Ieee.Format.read
  dsimp only
  rw [if_neg (by omega), if_neg (by omega), if_neg (by omega)]
  rfl
theorem isNaN64_of {n : Nat} (h : 0x7ff0000000000000 < n % 2 ^ 63) : (FloatKind.f64.decode n).isNaN = true :=
  read_nan Ieee.double (by decide) h
theorem nanTo_nan (w : World) (b : Nat) : (FloatKind.f64.decode (nanTo w b)).isNaN = true := by
  unfold nanTo Question.cut
  generalize w.tape w.drawn (.nanConv .f64 b) = t
  refine isNaN64_of ?_
  have h1 : t / 2 % (2 ^ 52 - 1) < 2 ^ 52 - 1 := Nat.mod_lt _ (by decide)
  have h2 : t % 2 < 2 := Nat.mod_lt _ (by decide)
  show 0x7ff0000000000000 < ((t % 2) * 2 ^ 63 + 0x7ff0000000000000 + 1 + (t / 2) % (2 ^ 52 - 1)) % 2 ^ 63
  revert h1 h2
  generalize t / 2 % (2 ^ 52 - 1) = q
  generalize t % 2 = s
  intro h1 h2
  rcases (by omega : s = 0 ∨ s = 1) with rfl | rfl <;> omega
theorem run_nan_wide {P : Program} (w : World) (src dst : TypeId) (b : Nat) (hs : (P.underlying src).isSome = true) (hd : P.underlying dst = some (.float .f64)) (h : (FloatKind.f32.decode b).isNaN = true) :
    (convert src dst (.float .f32 b)).run P w = .ok (.float .f64 (nanTo w b)) w.drew := by
  obtain ⟨u, hs'⟩ := Option.isSome_iff_exists.1 hs
  cases hq : FloatKind.f32.decode b with
  | nan s f =>
    cases u <;> simp [convert, run_underlying hs', run_underlying hd, Conv.floatToFloat, hq, nanTo, choose]
    all_goals rfl
  | infinity s => rw [hq] at h; simp [Ieee.Datum.isNaN] at h
  | number s m e => rw [hq] at h; simp [Ieee.Datum.isNaN] at h
theorem word_mod (f : Ieee.Format) (neg : Bool) {rung : Nat} (h : rung < f.signWeight) : f.word neg rung % f.signWeight = rung := by
  unfold Ieee.Format.word
  cases neg
  · simpa using Nat.mod_eq_of_lt h
  · simp only [if_true]
    rw [Nat.add_mod_left]
    exact Nat.mod_eq_of_lt h
theorem word_neg (f : Ieee.Format) (neg : Bool) {rung : Nat} (h : rung < f.signWeight) : (f.word neg rung / f.signWeight % 2 == 1) = neg := by
  have hp : 0 < f.signWeight := by omega
  unfold Ieee.Format.word
  cases neg
  · simp [Nat.div_eq_of_lt h]
  · simp only [if_true]
    rw [Nat.add_div_left _ hp, Nat.div_eq_of_lt h]
    rfl
theorem binade_pos (f : Ieee.Format) : 0 < f.binade := Nat.two_pow_pos _
/-- What a word stands for, by its rung. -/
theorem read_word (f : Ieee.Format) (neg : Bool) {rung : Nat} (h : rung < f.signWeight) :
    f.read (f.word neg rung) = if rung < f.binade then .number neg rung f.leastPlace
      else if rung < f.infRung then .number neg (f.binade + rung % f.binade) (f.leastPlace + (rung / f.binade - 1 : Nat))
      else if rung = f.infRung then .infinity neg else .nan neg (rung - f.infRung) := by
  unfold Ieee.Format.read
  rw [word_mod f neg h, word_neg f neg h]
theorem notNan_word (f : Ieee.Format) (neg : Bool) {rung : Nat} (h : rung ≤ f.infRung) : (f.read (f.word neg rung)).isNaN = false := by
  have := f.infRung_lt
  rw [read_word f neg (by omega)]
  split
  · rfl
  · split
    · rfl
    · rw [if_pos (by omega)]; rfl
theorem notInf_word (f : Ieee.Format) (neg : Bool) {rung : Nat} (h : rung < f.infRung) : (f.read (f.word neg rung)).isInfinity = false := by
  have := f.infRung_lt
  rw [read_word f neg (by omega)]
  split
  · rfl
  · rfl
theorem notNan_nearest (f : Ieee.Format) (neg : Bool) (mag : Nat) (place : Int) : (f.read (f.nearest neg mag place)).isNaN = false := by
  unfold Ieee.Format.nearest
  dsimp only
  split
  · exact notNan_word f neg (Nat.zero_le _)
  · exact notNan_word f neg (Nat.min_le_right _ _)
/-- A word of single precision that stands for a number: its digits and its place. -/
theorem read32 {b : Nat} {s : Bool} {m : Nat} {e : Int} (h : FloatKind.f32.decode b = .number s m e) : m < 2 ^ 24 ∧ -149 ≤ e ∧ e ≤ 104 := by
  have hs : Ieee.Format.signWeight Ieee.single = 2147483648 := by decide
  have hb : Ieee.Format.binade Ieee.single = 8388608 := by decide
  have hi : Ieee.Format.infRung Ieee.single = 2139095040 := by decide
  have hl : Ieee.Format.leastPlace Ieee.single = -149 := by decide
  simp only [FloatKind.decode, FloatKind.format, Ieee.Format.read, hs, hb, hi, hl] at h
  split at h
  · cases h; omega
  · split at h
    · cases h; omega
    · split at h <;> cases h
theorem cut_none (neg : Bool) (n : Nat) : Ieee.Toward.even.cut neg n 0 = n := by
  have h1 : n % 1 = 0 := Nat.mod_one n
  simp [Ieee.Toward.cut, h1]
theorem wide_finite {m : Nat} {e : Int} (s : Bool) (hm : m < 2 ^ 24) (he : -149 ≤ e) (he' : e ≤ 104) : (Ieee.double.read (Ieee.double.nearest s m e)).isInfinity = false := by
  have hi : Ieee.Format.infRung Ieee.double = 2047 * 2 ^ 52 := by decide
  have hl : Ieee.Format.leastPlace Ieee.double = -1074 := by decide
  have hb : Ieee.Format.binade Ieee.double = 2 ^ 52 := by decide
  unfold Ieee.Format.nearest
  dsimp only
  split
  · exact notInf_word _ _ (by rw [hi]; omega)
  · rename_i h0
    have hlog : m.log2 < 24 := (Nat.log2_lt h0).2 hm
    have hfr : (Ieee.double.fractionBits : Int) = 52 := rfl
    rw [hl, hb, hi, hfr]
    have hlast : max (e + (m.log2 : Int) - 52) (-1074) = e + (m.log2 : Int) - 52 := by omega
    rw [hlast]
    have hz : (e + (m.log2 : Int) - 52 - e).toNat = 0 := by omega
    rw [hz, cut_none]
    refine notInf_word _ _ ?_
    rw [hi]
    have hk : m <<< (e - (e + (m.log2 : Int) - 52)).toNat < 2 ^ 53 := by
      have h1 : (e - (e + (m.log2 : Int) - 52)).toNat = 52 - m.log2 := by omega
      rw [h1, Nat.shiftLeft_eq]
      have h2 : m < 2 ^ (m.log2 + 1) := Nat.lt_log2_self
      calc m * 2 ^ (52 - m.log2) < 2 ^ (m.log2 + 1) * 2 ^ (52 - m.log2) := Nat.mul_lt_mul_of_pos_right h2 (Nat.two_pow_pos _)
        _ = 2 ^ 53 := by rw [← Nat.pow_add]; congr 1; omega
    have h3 : (e + (m.log2 : Int) - 52 - -1074).toNat ≤ 1149 := by omega
    have h4 : (e + (m.log2 : Int) - 52 - -1074).toNat * 2 ^ 52 ≤ 1149 * 2 ^ 52 := Nat.mul_le_mul_right _ h3
    refine Nat.lt_of_le_of_lt (Nat.min_le_left _ _) ?_
    omega
/-- The wider float of the same value. -/
def wide (b : Nat) : Nat := (floatToFloatBits .f32 b .f64).getD 0
theorem wide_some {b : Nat} (h : (FloatKind.f32.decode b).isNaN = false) : floatToFloatBits .f32 b .f64 = some (wide b) ∧ (FloatKind.f64.decode (wide b)).isNaN = false := by
  unfold wide floatToFloatBits
  rw [if_neg (by decide)]
  cases hd : FloatKind.f32.decode b with
  | nan s f => rw [hd] at h; simp [Ieee.Datum.isNaN] at h
  | infinity s => exact ⟨rfl, notNan_word Ieee.double s (Nat.le_refl _)⟩
  | number s m e =>
    obtain ⟨h1, h2, h3⟩ := read32 hd
    have hf := wide_finite s h1 h2 h3
    have hf' : (FloatKind.f64.decode (FloatKind.f64.encode (.number s m e))).isInfinity = false := hf
    simp only [hf', Bool.false_eq_true, if_false, Option.getD_some, true_and]
    exact notNan_nearest Ieee.double s m e
theorem run_wide {P : Program} (w : World) (src dst : TypeId) (b : Nat) (hs : (P.underlying src).isSome = true) (hd : P.underlying dst = some (.float .f64)) (h : (FloatKind.f32.decode b).isNaN = false) :
    (convert src dst (.float .f32 b)).run P w = .ok (.float .f64 (wide b)) w :=
  run_convert_float_float w src dst .f32 .f64 b _ hs hd (wide_some h).1
/-- One divided by a zero is an infinity. -/
theorem quo_zero {x : Nat} (h : FloatKind.f64.format.order x 0 = some .eq) : ∃ r, floatBits .quo .f64 4607182418800017408 x = some r := by
  have h1 : Ieee.double.read 4607182418800017408 = .number false 4503599627370496 (-52) := by decide +kernel
  have h0 : Ieee.double.read 0 = .number false 0 (-1074) := by decide +kernel
  unfold floatBits
  simp only [FloatKind.format, Ieee.Format.div, h1]
  simp only [FloatKind.format, Ieee.Format.order, h0] at h
  cases hx : Ieee.double.read x with
  | nan s f => rw [hx] at h; simp [Ieee.Datum.order] at h
  | infinity s => rw [hx] at h; cases s <;> simp [Ieee.Datum.order] at h
  | number s m i =>
    rw [hx] at h
    simp only [Ieee.Datum.order, Option.some.injEq] at h
    have hz : Ieee.signed s m (i - min i (-1074)).toNat = Ieee.signed false 0 (-1074 - min i (-1074)).toNat := Std.LawfulEqCmp.eq_of_compare h
    have hm : m = 0 := by
      have h2 : Ieee.signed false 0 (-1074 - min i (-1074)).toNat = 0 := by simp [Ieee.signed]
      rw [h2] at hz
      have h3 : m <<< (i - min i (-1074)).toNat = 0 := by
        unfold Ieee.signed at hz
        generalize m <<< (i - min i (-1074)).toNat = t at hz
        cases s
        · simp only [Bool.false_eq_true, if_false] at hz
          omega
        · simp only [if_true] at hz
          omega
      rw [Nat.shiftLeft_eq] at h3
      rcases Nat.mul_eq_zero.1 h3 with h4 | h4
      · exact h4
      · exact absurd h4 (Nat.ne_of_gt (Nat.two_pow_pos _))
    subst hm
    exact ⟨_, by simp [Ieee.Datum.quotient]; rfl⟩
section
variable {P : Program} {w : World} {a : Addr} {m : Mode}
@[go_sem] theorem run_store_float (k : FloatKind) (b : Nat) : (store a (.float k b) m).run P w = stored P w a (.float k b) m := run_store P w a _ m rfl
@[go_sem] theorem unary_neg_float (k : FloatKind) (b : Nat) : Op.unary .neg (.float k b) = pure (.float k (Op.negFloat k b)) := rfl
end
end Go.Proofs.Ytjkgiknklkfipaa
