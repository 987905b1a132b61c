/-
  Texts of numbers, without a program: eight digits of base sixteen, and what reads them.
-/
import Derived.Lib.ParseIntB
import Derived.Lib.ItoaNum
import Derived.Test.YtdbcblfinflieaaDoorFlo
namespace Go.Proofs.YtdbcblfinflieaaDoor
open Go
set_option linter.unusedVariables false
/-- A digit of base sixteen. -/
def hexd (d : Nat) : UInt8 := UInt8.ofNat (if d < 10 then 48 + d else 87 + d)
theorem hexd_nat {d : Nat} (h : d < 16) : (hexd d).toNat = if d < 10 then 48 + d else 87 + d := by
  unfold hexd
  rw [UInt8.toNat_ofNat']
  split <;> omega
/-- k digits of base sixteen, the first ahead. -/
def hexN : Nat → Nat → List UInt8
  | 0, _ => []
  | k + 1, u => hexN k (u / 16) ++ [hexd (u % 16)]
theorem hexN_length : ∀ k u, (hexN k u).length = k
  | 0, _ => rfl
  | k + 1, u => by simp [hexN, hexN_length k]
/-- What a text of such digits stands for. -/
def rdh (acc : Nat) : List UInt8 → Option Nat
  | [] => some acc
  | c :: r => if 48 ≤ c.toNat ∧ c.toNat ≤ 57 then rdh (acc * 16 + (c.toNat - 48)) r else if 97 ≤ c.toNat ∧ c.toNat ≤ 102 then rdh (acc * 16 + (c.toNat - 87)) r else none
theorem rdh_append : ∀ (l m : List UInt8) (acc : Nat), rdh acc (l ++ m) = (rdh acc l).bind fun a => rdh a m
  | [], m, acc => rfl
  | c :: r, m, acc => by
    simp only [List.cons_append, rdh]
    split
    · exact rdh_append r m _
    · split
      · exact rdh_append r m _
      · rfl
theorem rdh_one {d : Nat} (h : d < 16) (acc : Nat) : rdh acc [hexd d] = some (acc * 16 + d) := by
  have e := hexd_nat h
  simp only [rdh]
  by_cases h1 : d < 10
  · rw [if_pos h1] at e
    rw [if_pos (by omega), e]
    congr 1; omega
  · rw [if_neg h1] at e
    rw [if_neg (by omega), if_pos (by omega), e]
    congr 1; omega
theorem rdh_hexN : ∀ (k u acc : Nat), u < 16 ^ k → rdh acc (hexN k u) = some (acc * 16 ^ k + u)
  | 0, u, acc, h => by
    have : u = 0 := by simpa using h
    subst this
    simp [hexN, rdh]
  | k + 1, u, acc, h => by
    rw [hexN, rdh_append, rdh_hexN k (u / 16) acc (by rw [Nat.pow_succ] at h; omega)]
    simp only [Option.bind_some]
    rw [rdh_one (by omega)]
    congr 1
    rw [Nat.pow_succ, ← Nat.mul_assoc]
    generalize acc * 16 ^ k = z
    omega
theorem rdh_single {a v : Nat} {c : UInt8} (h : rdh a [c] = some v) : ∃ d, d < 16 ∧ v = a * 16 + d ∧ hexd d = c := by
  have hc := c.toNat_lt
  simp only [rdh] at h
  split at h
  · rename_i h1
    injection h with h
    refine ⟨c.toNat - 48, by omega, h.symm, ?_⟩
    apply UInt8.toNat_inj.1
    rw [hexd_nat (by omega), if_pos (by omega)]
    omega
  · split at h
    · rename_i h1
      injection h with h
      refine ⟨c.toNat - 87, by omega, h.symm, ?_⟩
      apply UInt8.toNat_inj.1
      rw [hexd_nat (by omega), if_neg (by omega)]
      omega
    · cases h
theorem snoc_cases (l : List UInt8) : l = [] ∨ ∃ (l' : List UInt8) (c : UInt8), l = l' ++ [c] := by
  rcases List.eq_nil_or_concat l with h | ⟨a, b, h⟩
  · exact .inl h
  · exact .inr ⟨a, b, by first | exact h | rw [h, List.concat_eq_append]⟩
theorem rdh_inv : ∀ (k : Nat) (l : List UInt8) (v : Nat), l.length = k → rdh 0 l = some v → v < 16 ^ k ∧ hexN k v = l
  | 0, l, v, hl, h => by
    obtain rfl := List.eq_nil_of_length_eq_zero hl
    simp only [rdh, Option.some.injEq] at h
    subst h
    exact ⟨by simp, rfl⟩
  | k + 1, l, v, hl, h => by
    rcases snoc_cases l with rfl | ⟨l', c, rfl⟩
    · simp at hl
    · simp only [List.length_append, List.length_cons, List.length_nil] at hl
      rw [rdh_append] at h
      cases h1 : rdh 0 l' with
      | none => rw [h1] at h; cases h
      | some a =>
        rw [h1] at h
        obtain ⟨d, hd, rfl, rfl⟩ := rdh_single h
        obtain ⟨h2, h3⟩ := rdh_inv k l' a (by omega) h1
        have e1 : (a * 16 + d) / 16 = a := by omega
        have e2 : (a * 16 + d) % 16 = d := by omega
        refine ⟨by rw [Nat.pow_succ]; omega, ?_⟩
        rw [hexN, e1, e2, h3]
/-- The digits of base sixteen, none too many. -/
def hexDigits (u : Nat) : List UInt8 := if h : u < 16 then [hexd u] else hexDigits (u / 16) ++ [hexd (u % 16)]
termination_by u
decreasing_by omega
theorem hexDigits_pad : ∀ (k u : Nat), u < 16 ^ (k + 1) → (hexDigits u).length ≤ k + 1 ∧ List.replicate (k + 1 - (hexDigits u).length) 48 ++ hexDigits u = hexN (k + 1) u
  | 0, u, h => by
    have h1 : u < 16 := by simpa using h
    rw [hexDigits, dif_pos h1]
    refine ⟨by simp, ?_⟩
    simp [hexN, Nat.mod_eq_of_lt h1]
  | k + 1, u, h => by
    rw [hexN]
    by_cases h1 : u < 16
    · rw [hexDigits, dif_pos h1]
      obtain ⟨i1, i2⟩ := hexDigits_pad k (u / 16) (by rw [Nat.pow_succ] at h; omega)
      have hz : u / 16 = 0 := by omega
      rw [hz] at i2 ⊢
      refine ⟨by simp, ?_⟩
      rw [← i2, hexDigits, dif_pos (by decide : 0 < 16), Nat.mod_eq_of_lt h1]
      have hd : hexd 0 = 48 := by decide
      simp only [List.length_cons, List.length_nil, hd]
      have e : ∀ n : Nat, List.replicate (n + 1) (48 : UInt8) = List.replicate n 48 ++ [48] := fun n => by rw [List.replicate_succ']
      have e1 : k + 1 + 1 - (0 + 1) = k + 1 := by omega
      have e2 : k + 1 - (0 + 1) = k := by omega
      rw [e1, e2, e]
    · rw [hexDigits, dif_neg h1]
      obtain ⟨i1, i2⟩ := hexDigits_pad k (u / 16) (by rw [Nat.pow_succ] at h; omega)
      have e0 : (hexDigits (u / 16) ++ [hexd (u % 16)]).length = (hexDigits (u / 16)).length + 1 := by simp
      rw [e0]
      refine ⟨by omega, ?_⟩
      rw [← i2]
      have e1 : k + 1 + 1 - ((hexDigits (u / 16)).length + 1) = k + 1 - (hexDigits (u / 16)).length := by omega
      rw [e1, List.append_assoc]
def hex8 (u : Nat) : List UInt8 := hexN 8 u
theorem hex8_pad {u : Nat} (h : u < 4294967296) : (hexDigits u).length ≤ 8 ∧ List.replicate (8 - (hexDigits u).length) 48 ++ hexDigits u = hex8 u := hexDigits_pad 7 u (by simpa using h)
theorem hex8_length (u : Nat) : (hex8 u).length = 8 := hexN_length 8 u
theorem hex8_inj {u v : Nat} (hu : u < 4294967296) (hv : v < 4294967296) (h : hex8 u = hex8 v) : u = v := by
  have h1 := rdh_hexN 8 u 0 (by simpa using hu)
  have h2 := rdh_hexN 8 v 0 (by simpa using hv)
  have h3 : hexN 8 u = hexN 8 v := h
  rw [h3, h2] at h1
  simpa using h1.symm
/-- The value of a digit of base sixteen, small or great. -/
def hv (c : UInt8) : Option Nat := if 48 ≤ c.toNat ∧ c.toNat ≤ 57 then some (c.toNat - 48) else if 97 ≤ c.toNat ∧ c.toNat ≤ 102 then some (c.toNat - 87) else if 65 ≤ c.toNat ∧ c.toNat ≤ 70 then some (c.toNat - 55) else none
/-- How a text is read: a number, no number, or one that is too great. -/
inductive PR where
  | good (v : Nat)
  | bad
  | over
/-- What ParseUint makes of a text that is not empty, at base sixteen and 32 bits. -/
def pu16 (acc : Nat) : List UInt8 → PR
  | [] => .good acc
  | c :: r => match hv c with
    | none => .bad
    | some d => if 4294967295 < acc * 16 + d then .over else pu16 (acc * 16 + d) r
def pu (l : List UInt8) : PR := if l = [] then .bad else pu16 0 l
theorem rdh_le : ∀ (l : List UInt8) (acc v : Nat), rdh acc l = some v → acc ≤ v
  | [], acc, v, h => by simp only [rdh, Option.some.injEq] at h; omega
  | c :: r, acc, v, h => by
    simp only [rdh] at h
    split at h
    · have := rdh_le r _ v h; omega
    · split at h
      · have := rdh_le r _ v h; omega
      · cases h
theorem pu16_rdh : ∀ (l : List UInt8) (acc v : Nat), rdh acc l = some v → v ≤ 4294967295 → pu16 acc l = .good v
  | [], acc, v, h, _ => by simp only [rdh, Option.some.injEq] at h; rw [pu16, h]
  | c :: r, acc, v, h, hv' => by
    simp only [rdh] at h
    unfold pu16 hv
    split at h
    · rename_i h1
      have := rdh_le r _ v h
      rw [if_pos h1]
      simp only
      rw [if_neg (by omega)]
      exact pu16_rdh r _ v h hv'
    · rename_i h1
      split at h
      · rename_i h2
        have := rdh_le r _ v h
        rw [if_neg h1, if_pos h2]
        simp only
        rw [if_neg (by omega)]
        exact pu16_rdh r _ v h hv'
      · cases h
theorem pu16_lt : ∀ (l : List UInt8) (acc v : Nat), acc ≤ 4294967295 → pu16 acc l = .good v → v ≤ 4294967295
  | [], acc, v, ha, h => by simp only [pu16] at h; injection h with h; omega
  | c :: r, acc, v, ha, h => by
    unfold pu16 at h
    split at h
    · cases h
    · split at h
      · cases h
      · exact pu16_lt r _ v (by omega) h
theorem pu_lt {l : List UInt8} {v : Nat} (h : pu l = .good v) : v < 4294967296 := by
  unfold pu at h
  split at h
  · cases h
  · have := pu16_lt l 0 v (by omega) h
    omega
/-- The number with a text, as the model reads it. -/
def rdN (l : List UInt8) : Option Nat := if l.length = 8 then (match rdh 0 l with | some v => if cn v = v then some v else none | none => none) else none
/-- As the program reads it. -/
def rdI (l : List UInt8) : Option Nat := match pu l with | .good v => if hex8 (cn v) = l then some v else none | _ => none
theorem cn_lt {v : Nat} (h : v < 4294967296) : cn v < 4294967296 := by
  unfold cn
  split
  · decide
  · exact h
theorem pu_hex8 {v : Nat} (h : v < 4294967296) : pu (hex8 v) = .good v := by
  have h1 := rdh_hexN 8 v 0 (by simpa using h)
  have hne : hex8 v ≠ [] := fun e => by have := hex8_length v; rw [e] at this; cases this
  unfold pu
  rw [if_neg hne]
  refine pu16_rdh _ 0 v ?_ (by omega)
  rw [hex8, h1]
  simp
theorem rdI_eq (l : List UInt8) : rdI l = rdN l := by
  unfold rdI rdN
  by_cases h8 : l.length = 8
  · rw [if_pos h8]
    cases h : rdh 0 l with
    | some v =>
      obtain ⟨h1, h2⟩ := rdh_inv 8 l v h8 h
      have h1' : v < 4294967296 := by simpa using h1
      have h3 : hex8 v = l := h2
      subst h3
      rw [pu_hex8 h1']
      simp only
      by_cases hc : cn v = v
      · rw [hc, if_pos rfl, if_pos rfl]
      · rw [if_neg hc, if_neg fun e => hc (hex8_inj (cn_lt h1') h1' e)]
    | none =>
      cases hp : pu l with
      | good v =>
        simp only
        rw [if_neg]
        intro e
        rw [← e, hex8, rdh_hexN 8 (cn v) 0 (by simpa using cn_lt (pu_lt hp))] at h
        cases h
      | bad => rfl
      | over => rfl
  · rw [if_neg h8]
    cases hp : pu l with
    | good v =>
      simp only
      rw [if_neg]
      intro e
      exact h8 (by rw [← e]; exact hex8_length _)
    | bad => rfl
    | over => rfl
theorem rdN_lt {l : List UInt8} {v : Nat} (h : rdN l = some v) : v < 4294967296 ∧ cn v = v ∧ hex8 v = l := by
  unfold rdN at h
  split at h
  · rename_i h8
    split at h
    · rename_i u hu
      split at h
      · rename_i hc
        injection h with h
        subst h
        obtain ⟨h1, h2⟩ := rdh_inv 8 l u h8 hu
        exact ⟨by simpa using h1, hc, h2⟩
      · cases h
    · cases h
  · cases h
theorem rdN_hex8 {v : Nat} (h : v < 4294967296) (hc : cn v = v) : rdN (hex8 v) = some v := by
  unfold rdN
  rw [if_pos (hex8_length v), hex8, rdh_hexN 8 v 0 (by simpa using h)]
  simp [hc]
end Go.Proofs.YtdbcblfinflieaaDoor
