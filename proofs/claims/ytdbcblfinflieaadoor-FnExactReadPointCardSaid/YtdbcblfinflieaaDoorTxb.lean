/-
  Texts, without a program: decimal numerals, and what reads them; texts cut at a byte, and put together again.
-/
import Derived.Test.YtdbcblfinflieaaDoorTxa
import Derived.Lib.Join
namespace Go.Proofs.YtdbcblfinflieaaDoor
open Go
set_option linter.unusedVariables false
/-- What a text of decimal digits stands for. -/
def rdd (acc : Nat) : List UInt8 → Option Nat
  | [] => some acc
  | c :: r => if 48 ≤ c.toNat ∧ c.toNat ≤ 57 then rdd (acc * 10 + (c.toNat - 48)) r else none
theorem rdd_append : ∀ (l m : List UInt8) (acc : Nat), rdd acc (l ++ m) = (rdd acc l).bind fun a => rdd a m
  | [], m, acc => rfl
  | c :: r, m, acc => by
    simp only [List.cons_append, rdd]
    split
    · exact rdd_append r m _
    · rfl
theorem decd_nat {d : Nat} (h : d < 10) : (UInt8.ofNat (48 + d)).toNat = 48 + d := by
  rw [UInt8.toNat_ofNat']; omega
theorem rdd_one {d : Nat} (h : d < 10) (acc : Nat) : rdd acc [UInt8.ofNat (48 + d)] = some (acc * 10 + d) := by
  simp only [rdd, decd_nat h]
  rw [if_pos (by omega)]
  congr 1; omega
theorem rdd_dec (u : Nat) : rdd 0 (Lib.decDigits u) = some u := by
  rw [Lib.decDigits]
  split
  · rename_i h
    rw [rdd_one h]; congr 1; omega
  · rename_i h
    rw [rdd_append, rdd_dec (u / 10)]
    simp only [Option.bind_some]
    rw [rdd_one (by omega)]
    congr 1; omega
termination_by u
decreasing_by omega
theorem rdd_single {a v : Nat} {c : UInt8} (h : rdd a [c] = some v) : ∃ d, d < 10 ∧ v = a * 10 + d ∧ UInt8.ofNat (48 + d) = c := by
  have hc := c.toNat_lt
  simp only [rdd] at h
  split at h
  · rename_i h1
    injection h with h
    refine ⟨c.toNat - 48, by omega, h.symm, ?_⟩
    apply UInt8.toNat_inj.1
    rw [decd_nat (by omega)]
    omega
  · cases h
theorem dec_small {u : Nat} (h : u < 10) : Lib.decDigits u = [UInt8.ofNat (48 + u)] := by rw [Lib.decDigits, dif_pos h]
theorem dec_big {u : Nat} (h : ¬ u < 10) : Lib.decDigits u = Lib.decDigits (u / 10) ++ [UInt8.ofNat (48 + u % 10)] := by rw [Lib.decDigits, dif_neg h]
theorem dec_ne (u : Nat) : Lib.decDigits u ≠ [] := by
  by_cases h : u < 10
  · rw [dec_small h]; simp
  · rw [dec_big h]; simp
/-- The first digit is no nought, but for nought's. -/
theorem dec_head (u : Nat) (h : 0 < u) : (Lib.decDigits u).head? ≠ some 48 := by
  by_cases h1 : u < 10
  · rw [dec_small h1]
    intro e
    have e2 := congrArg (Option.map UInt8.toNat) e
    simp only [List.head?_cons, Option.map_some, decd_nat h1, Option.some.injEq] at e2
    have : (48 : UInt8).toNat = 48 := rfl
    omega
  · rw [dec_big h1, List.head?_append]
    have ih := dec_head (u / 10) (by omega)
    cases h2 : (Lib.decDigits (u / 10)).head? with
    | none => rw [List.head?_eq_none_iff] at h2; exact absurd h2 (dec_ne _)
    | some c => rw [h2] at ih; simpa using ih
termination_by u
decreasing_by omega
theorem rdd_inv : ∀ (k : Nat) (l : List UInt8) (v : Nat), l.length = k → l ≠ [] → (l.head? ≠ some 48 ∨ l.length = 1) → rdd 0 l = some v → Lib.decDigits v = l
  | 0, l, v, hl, hne, _, _ => absurd (List.eq_nil_of_length_eq_zero hl) hne
  | k + 1, l, v, hl, hne, hh, h => by
    rcases snoc_cases l with rfl | ⟨l', c, rfl⟩
    · exact absurd rfl hne
    · simp only [List.length_append, List.length_cons, List.length_nil] at hl hh
      rw [rdd_append] at h
      cases h1 : rdd 0 l' with
      | none => rw [h1] at h; cases h
      | some a =>
        rw [h1] at h
        obtain ⟨d, hd, rfl, rfl⟩ := rdd_single h
        by_cases hn : l' = []
        · subst hn
          simp only [rdd, Option.some.injEq] at h1
          subst h1
          rw [dec_small (by omega)]
          simp
        · have hp : 0 < l'.length := List.length_pos_iff.2 hn
          have hh' : l'.head? ≠ some 48 := by
            rcases hh with hh | hh
            · intro e
              exact hh (by rw [List.head?_append, e]; rfl)
            · omega
          have ih := rdd_inv k l' a (by omega) hn (.inl hh') h1
          have ha : 0 < a := by
            rcases Nat.eq_zero_or_pos a with h0 | h0
            · subst h0
              rw [dec_small (by omega)] at ih
              subst ih
              exact absurd rfl hh'
            · exact h0
          have e1 : (a * 10 + d) / 10 = a := by omega
          have e2 : (a * 10 + d) % 10 = d := by omega
          rw [dec_big (by omega), e1, e2, ih]
/-- The number of one to nine digits with a text, as the model reads it. -/
def nmb (l : List UInt8) : Option Nat := if l.length < 1 ∨ 9 < l.length ∨ (l.head? = some 48 ∧ 1 < l.length) then none else rdd 0 l
theorem nmb_inv {l : List UInt8} {v : Nat} (h : nmb l = some v) : Lib.decDigits v = l := by
  unfold nmb at h
  split at h
  · cases h
  · rename_i h0
    have hne : l ≠ [] := fun e => h0 (.inl (by rw [e]; simp))
    refine rdd_inv l.length l v rfl hne ?_ h
    by_cases hh : l.head? = some 48
    · right
      have hp : 0 < l.length := List.length_pos_iff.2 hne
      have : ¬ 1 < l.length := fun e => h0 (.inr (.inr ⟨hh, e⟩))
      omega
    · exact .inl hh
theorem dec_len : ∀ (k u : Nat), u < 10 ^ (k + 1) → (Lib.decDigits u).length ≤ k + 1
  | 0, u, h => by rw [dec_small (by simpa using h)]; simp
  | k + 1, u, h => by
    by_cases h1 : u < 10
    · rw [dec_small h1]; simp
    · rw [dec_big h1, List.length_append]
      have := dec_len k (u / 10) (by rw [Nat.pow_succ] at h; omega)
      simp only [List.length_cons, List.length_nil]
      omega
theorem nmb_dec {u : Nat} (h : u < 1000000000) : nmb (Lib.decDigits u) = some u := by
  unfold nmb
  rw [if_neg, rdd_dec]
  have h1 := dec_len 8 u (by simpa using h)
  have h2 : 0 < (Lib.decDigits u).length := List.length_pos_iff.2 (dec_ne u)
  rintro (h3 | h3 | ⟨h3, h4⟩)
  · omega
  · omega
  · rcases Nat.eq_zero_or_pos u with rfl | hp
    · rw [dec_small (by omega)] at h4; simp at h4
    · exact dec_head u hp h3
/-- The digits alone: no sign, no byte that is no digit. -/
theorem dec_digit (u : Nat) : ∀ c ∈ Lib.decDigits u, 48 ≤ c.toNat ∧ c.toNat ≤ 57 := by
  by_cases h : u < 10
  · rw [dec_small h]
    intro c hc
    simp only [List.mem_singleton] at hc
    rw [hc, decd_nat h]
    omega
  · rw [dec_big h]
    intro c hc
    rcases List.mem_append.1 hc with hc | hc
    · exact dec_digit (u / 10) c hc
    · simp only [List.mem_singleton] at hc
      rw [hc, decd_nat (by omega)]
      omega
termination_by u
decreasing_by omega
theorem hex_digit : ∀ (k u : Nat), ∀ c ∈ hexN k u, 48 ≤ c.toNat ∧ c.toNat ≤ 102 ∧ c.toNat ≠ 58
  | 0, u, c, hc => by simp [hexN] at hc
  | k + 1, u, c, hc => by
    rcases List.mem_append.1 hc with hc | hc
    · exact hex_digit k (u / 16) c hc
    · simp only [List.mem_singleton] at hc
      rw [hc, hexd_nat (by omega)]
      split <;> omega
theorem pM_rdd : ∀ (l : List UInt8) (M acc v : Nat), rdd acc l = some v → v ≤ M → M < 1844674407370955162 → Lib.parseUintM M acc l = .ok v
  | [], M, acc, v, h, _, _ => by simp only [rdd, Option.some.injEq] at h; rw [Lib.parseUintM, h]
  | c :: r, M, acc, v, h, hM, hb => by
    have hle : ∀ (l : List UInt8) (a x : Nat), rdd a l = some x → a ≤ x := by
      intro l
      induction l with
      | nil => intro a x h; simp only [rdd, Option.some.injEq] at h; omega
      | cons c l ih =>
        intro a x h
        simp only [rdd] at h
        split at h
        · have := ih _ x h; omega
        · cases h
    simp only [rdd] at h
    split at h
    · rename_i h1
      have := hle r _ v h
      unfold Lib.parseUintM
      rw [if_pos h1, if_neg (by omega), if_neg (by omega)]
      exact pM_rdd r M _ v h hM hb
    · cases h
/-- ParseInt at a numeral. -/
theorem pI_dec (B u : Nat) (hB : 1 ≤ B) (hB2 : B ≤ 32) (h : u < 2 ^ (B - 1)) : Lib.parseIntB B (Lib.decDigits u) = .ok (u : Int) := by
  have hp : 2 ^ B = 2 * 2 ^ (B - 1) := by
    obtain ⟨b, rfl⟩ : ∃ b, B = b + 1 := ⟨B - 1, by omega⟩
    simp [Nat.pow_succ]; omega
  have hq : 2 ^ B ≤ 2 ^ 32 := Nat.pow_le_pow_right (by decide) hB2
  have hM := pM_rdd (Lib.decDigits u) (2 ^ B - 1) 0 u (rdd_dec u) (by omega) (by omega)
  cases hd : Lib.decDigits u with
  | nil => exact absurd hd (dec_ne u)
  | cons c r =>
    have hc := dec_digit u c (by rw [hd]; exact List.mem_cons_self ..)
    unfold Lib.parseIntB
    simp only
    rw [if_neg (by omega), ← hd]
    unfold Lib.parseUintB
    rw [if_neg (dec_ne u), hM]
    simp only
    rw [if_neg (by omega), if_neg (by omega), if_neg (by omega)]
/-- A text cut at a byte. -/
def spl (by_ : UInt8) : List UInt8 → List (List UInt8)
  | [] => [[]]
  | c :: r => if c = by_ then [] :: spl by_ r else (match spl by_ r with | x :: xs => (c :: x) :: xs | [] => [[c]])
theorem spl_ne (b : UInt8) : ∀ l, spl b l ≠ []
  | [] => by simp [spl]
  | c :: r => by
    unfold spl
    split
    · simp
    · split <;> simp
theorem spl_join (b : UInt8) : ∀ l, Lib.join (spl b l) [b] = l
  | [] => by simp [spl, Lib.join_one]
  | c :: r => by
    have ih := spl_join b r
    unfold spl
    split
    · rename_i h
      subst h
      cases hs : spl c r with
      | nil => exact absurd hs (spl_ne c r)
      | cons x xs =>
        rw [hs] at ih
        rw [Lib.join_cons] at ih ⊢
        simp only [Lib.joinTail, List.map_cons, List.flatten_cons, List.nil_append, List.cons_append] at ih ⊢
        rw [ih]
    · split
      · rename_i x xs hs
        rw [hs] at ih
        rw [Lib.join_cons] at ih ⊢
        rw [List.cons_append, ih]
      · rename_i hs
        exact absurd hs (spl_ne b r)
theorem spl_clean (b : UInt8) : ∀ l, ∀ x ∈ spl b l, b ∉ x
  | [], x, hx => by simp [spl] at hx; subst hx; simp
  | c :: r, x, hx => by
    have ih := spl_clean b r
    unfold spl at hx
    split at hx
    · rcases List.mem_cons.1 hx with rfl | hx
      · simp
      · exact ih x hx
    · rename_i h
      split at hx
      · rename_i y ys hs
        rw [hs] at ih
        rcases List.mem_cons.1 hx with rfl | hx
        · have := ih y (List.mem_cons_self ..)
          intro hm
          rcases List.mem_cons.1 hm with e | hm
          · exact h e.symm
          · exact this hm
        · exact ih x (List.mem_cons_of_mem _ hx)
      · rename_i hs
        exact absurd hs (spl_ne b r)
theorem spl_pre (b : UInt8) (x : List UInt8) (hx : b ∉ x) : ∀ y, ∃ z zs, spl b y = z :: zs ∧ spl b (x ++ y) = (x ++ z) :: zs := by
  induction x with
  | nil =>
    intro y
    cases hs : spl b y with
    | nil => exact absurd hs (spl_ne b y)
    | cons z zs => exact ⟨z, zs, rfl, by rw [List.nil_append, hs]; rfl⟩
  | cons c r ih =>
    intro y
    obtain ⟨z, zs, h1, h2⟩ := ih (fun h => hx (List.mem_cons_of_mem _ h)) y
    refine ⟨z, zs, h1, ?_⟩
    have hc : ¬ c = b := fun e => hx (by rw [e]; exact List.mem_cons_self ..)
    rw [List.cons_append, spl, if_neg hc, h2]
    rfl
theorem spl_one (b : UInt8) (x : List UInt8) (hx : b ∉ x) : spl b x = [x] := by
  obtain ⟨z, zs, h1, h2⟩ := spl_pre b x hx []
  have h3 : spl b [] = [[]] := rfl
  rw [h3] at h1
  injection h1 with h4 h5
  subst h4 h5
  simpa using h2
theorem spl_sep (b : UInt8) (x y : List UInt8) (hx : b ∉ x) : spl b (x ++ b :: y) = x :: spl b y := by
  obtain ⟨z, zs, h1, h2⟩ := spl_pre b x hx (b :: y)
  rw [spl, if_pos rfl] at h1
  injection h1 with h3 h4
  subst h3 h4
  simpa using h2
theorem join_two (x y : List UInt8) (r : List (List UInt8)) (b : UInt8) : Lib.join (x :: y :: r) [b] = x ++ b :: Lib.join (y :: r) [b] := by
  rw [Lib.join_cons, Lib.join_cons]
  simp [Lib.joinTail]
theorem spl_of_join (b : UInt8) : ∀ ws : List (List UInt8), ws ≠ [] → (∀ x ∈ ws, b ∉ x) → spl b (Lib.join ws [b]) = ws
  | [], h, _ => absurd rfl h
  | [x], _, h => by rw [Lib.join_one]; exact spl_one b x (h x (List.mem_cons_self ..))
  | x :: y :: r, _, h => by
    rw [join_two, spl_sep b x _ (h x (List.mem_cons_self ..)), spl_of_join b (y :: r) (by simp) fun z hz => h z (List.mem_cons_of_mem _ hz)]
end Go.Proofs.YtdbcblfinflieaaDoor
