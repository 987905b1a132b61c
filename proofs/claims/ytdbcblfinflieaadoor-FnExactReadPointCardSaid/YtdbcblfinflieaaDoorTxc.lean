/-
  Texts, without a program: the library's cuts at one byte, and the model's; the readers of words of four numbers.
-/
import Derived.Test.YtdbcblfinflieaaDoorTxb
import Derived.Lib.Split
import Derived.Lib.Repeat
namespace Go.Proofs.YtdbcblfinflieaaDoor
open Go
set_option linter.unusedVariables false
theorem idx_none (b : UInt8) : ∀ l : List UInt8, b ∉ l → Lib.index l [b] = -1
  | [], _ => rfl
  | c :: l, h => by
    have ih := idx_none b l fun e => h (List.mem_cons_of_mem _ e)
    have hc : ¬ b = c := fun e => h (by rw [e]; exact List.mem_cons_self ..)
    unfold Lib.index
    rw [if_neg (by simpa [List.isPrefixOf] using hc), ih]
    rfl
theorem idx_some (b : UInt8) : ∀ x y : List UInt8, b ∉ x → Lib.index (x ++ b :: y) [b] = (x.length : Nat)
  | [], y, _ => by
    unfold Lib.index
    simp [List.isPrefixOf]
  | c :: x, y, h => by
    have ih := idx_some b x y fun e => h (List.mem_cons_of_mem _ e)
    have hc : ¬ b = c := fun e => h (by rw [e]; exact List.mem_cons_self ..)
    rw [List.cons_append]
    unfold Lib.index
    rw [if_neg (by simpa [List.isPrefixOf] using hc), ih]
    have : (((x.length : Nat) : Int) == -1) = false := by rw [beq_eq_false_iff_ne]; omega
    simp [this]
theorem first_of (b : UInt8) : ∀ l : List UInt8, b ∈ l → ∃ x y, b ∉ x ∧ l = x ++ b :: y
  | [], h => by cases h
  | c :: l, h => by
    by_cases hc : b = c
    · exact ⟨[], l, by simp, by rw [hc]; rfl⟩
    · rcases List.mem_cons.1 h with e | h
      · exact absurd e hc
      · obtain ⟨x, y, h1, rfl⟩ := first_of b l h
        exact ⟨c :: x, y, by simp [hc, h1], rfl⟩
theorem drop_mid (b : UInt8) : ∀ x y : List UInt8, (x ++ b :: y).drop (x.length + 1) = y
  | [], y => rfl
  | c :: x, y => drop_mid b x y
theorem splitK_hit (b : UInt8) (k : Nat) (x y : List UInt8) (h : b ∉ x) : Lib.splitK [b] 0 (k + 1) (x ++ b :: y) = x :: Lib.splitK [b] 0 k y := by
  conv => lhs; unfold Lib.splitK
  rw [idx_some b x y h]
  have hne : ¬ ((((x.length : Nat) : Int) == -1) = true) := fun e => by have := beq_iff_eq.1 e; omega
  rw [if_neg hne]
  have e1 : ((x.length : Nat) : Int).toNat + 0 = x.length := by omega
  have e2 : ((x.length : Nat) : Int).toNat + [b].length = x.length + 1 := by simp
  rw [e1, e2, List.take_left, drop_mid]
theorem splitK_miss (b : UInt8) (k : Nat) (s : List UInt8) (h : b ∉ s) : Lib.splitK [b] 0 k s = [s] := by
  cases k with
  | zero => rfl
  | succ k => unfold Lib.splitK; rw [idx_none b s h]; rfl
/-- Cut at every place: as the model cuts. -/
theorem splitK_few (b : UInt8) : ∀ (k : Nat) (s : List UInt8), (spl b s).length ≤ k + 1 → Lib.splitK [b] 0 k s = spl b s
  | k, s, h => by
    by_cases hb : b ∈ s
    · obtain ⟨x, y, h1, rfl⟩ := first_of b s hb
      rw [spl_sep b x y h1] at h ⊢
      have := List.length_pos_iff.2 (spl_ne b y)
      simp only [List.length_cons] at h
      cases k with
      | zero => omega
      | succ k => rw [splitK_hit b k x y h1, splitK_few b k y (by omega)]
    · rw [spl_one b s hb, splitK_miss b k s hb]
/-- More places than cuts: the last piece bears the byte. -/
theorem splitK_many (b : UInt8) : ∀ (k : Nat) (s : List UInt8), k + 1 < (spl b s).length → (Lib.splitK [b] 0 k s).length = k + 1 ∧ ∃ x ∈ Lib.splitK [b] 0 k s, b ∈ x
  | 0, s, h => by
    refine ⟨rfl, s, by simp [Lib.splitK], ?_⟩
    by_cases hb : b ∈ s
    · exact hb
    · rw [spl_one b s hb] at h; simp at h
  | k + 1, s, h => by
    by_cases hb : b ∈ s
    · obtain ⟨x, y, h1, rfl⟩ := first_of b s hb
      rw [spl_sep b x y h1] at h
      obtain ⟨i1, z, i2, i3⟩ := splitK_many b k y (by simpa using h)
      rw [splitK_hit b k x y h1]
      exact ⟨by simp [i1], z, List.mem_cons_of_mem _ i2, i3⟩
    · rw [spl_one b s hb] at h; simp at h
theorem spl_le (b : UInt8) : ∀ s : List UInt8, (spl b s).length ≤ s.length + 1
  | [] => by simp [spl]
  | c :: r => by
    have ih := spl_le b r
    unfold spl
    split
    · simp only [List.length_cons]; omega
    · split
      · rename_i x xs hs; rw [hs] at ih; simp only [List.length_cons] at ih ⊢; omega
      · simp
/-- 'SplitN' at n pieces: all pieces where there are no more than n. -/
theorem splitN_few (b : UInt8) (n : Nat) (s : List UInt8) (hn : 1 ≤ n) (h : (spl b s).length ≤ n) : Lib.splitN s [b] n = spl b s := by
  unfold Lib.splitN
  refine splitK_few b _ s ?_
  have := spl_le b s
  omega
theorem splitN_many (b : UInt8) (n : Nat) (s : List UInt8) (hn : 1 ≤ n) (h : n < (spl b s).length) : (Lib.splitN s [b] n).length = n ∧ ∃ x ∈ Lib.splitN s [b] n, b ∈ x := by
  unfold Lib.splitN
  have hl := spl_le b s
  obtain ⟨k, hk⟩ : ∃ k, min n (s.length + 1) - 1 = k ∧ k + 1 = n := ⟨n - 1, by omega, by omega⟩
  rw [hk.1]
  have := splitK_many b k s (by omega)
  rw [hk.2] at this
  exact this
theorem splitN_length (b : UInt8) (n : Nat) (s : List UInt8) (hn : 1 ≤ n) : (Lib.splitN s [b] n).length = min n (spl b s).length := by
  by_cases h : (spl b s).length ≤ n
  · rw [splitN_few b n s hn h]; omega
  · rw [(splitN_many b n s hn (by omega)).1]; omega
theorem cut_hit (b : UInt8) (x y : List UInt8) (h : b ∉ x) : Lib.cut (x ++ b :: y) [b] = (x, y, true) := by
  unfold Lib.cut
  rw [idx_some b x y h, if_pos (by omega)]
  have e1 : ((x.length : Nat) : Int).toNat = x.length := by omega
  have e2 : x.length + [b].length = x.length + 1 := by simp
  rw [e1, e2, List.take_left, drop_mid]
theorem repeat_zero (n : Nat) : Lib.repeatL [48] n = List.replicate n 48 := by
  induction n with
  | zero => rfl
  | succ n ih => rw [Lib.repeatL, ih, List.replicate_succ]; rfl
end Go.Proofs.YtdbcblfinflieaaDoor
