/-
  How far factors are off a target: no number here is a NaN, none is negative, none is very great; the best of a list of pairs.
-/
import Derived.Test.YtaodpopghacmaaaWh
import Derived.Test.YtaodpopghacmaaaQt
import Derived.Test.YtaodpopghacmaaaNn
import Derived.Test.YtaodpopghacmaaaPra
namespace Go.Proofs.Ytaodpopghacmaaa
open Go.RowKit Go.ChangeShapes Go.WideShapes Go.Deep
set_option linter.unusedVariables false
set_option linter.unusedSimpArgs false
theorem neg_facts {x : Nat} (hx : x < 4294967296) : rg (Op.negFloat .f32 x) = rg x ∧ rk (Op.negFloat .f32 x) = - rk x ∧ Op.negFloat .f32 x < 4294967296 := by
  unfold Op.negFloat rg rk
  rw [show FloatKind.f32.format.exponentBits + FloatKind.f32.format.fractionBits = 31 from rfl]
  have e1 : (x ^^^ 2 ^ 31) % 2147483648 = x % 2147483648 := by
    rw [show 2147483648 = 2 ^ 31 from rfl, Nat.xor_mod_two_pow, Nat.mod_self, Nat.xor_zero]
  have e2 : (x ^^^ 2 ^ 31) / 2147483648 = (x / 2147483648) ^^^ 1 := by
    rw [show 2147483648 = 2 ^ 31 from rfl, Nat.xor_div_two_pow, Nat.div_self (Nat.two_pow_pos 31)]
  have e3 : x ^^^ 2 ^ 31 < 4294967296 := by
    rw [show 4294967296 = 2 ^ 32 from rfl]
    exact Nat.xor_lt_two_pow hx (by decide)
  refine ⟨e1, ?_, e3⟩
  rw [e1, e2]
  have h2 : x / 2147483648 = 0 ∨ x / 2147483648 = 1 := by omega
  rcases h2 with h | h <;> rw [h] <;> simp
theorem cn_fix {x : Nat} (h : nan32 x = false) : cn x = x := by unfold cn; rw [h]; rfl
theorem cn_eq_fix {x c : Nat} (h : cn x = c) (hc : nan32 c = false) : x = c := by
  cases hx : nan32 x
  · rw [← h, cn_fix hx]
  · rw [cn_of_nan hx] at h
    subst h
    rw [nan_qn] at hc
    cases hc
theorem size_facts {r B : Nat} (hr : nan32 r = false) (hl : r < 4294967296) (hb : rg r ≤ B) : nan32 (sizeC r) = false ∧ rg (sizeC r) ≤ B ∧ 0 ≤ rk (sizeC r) ∧ sizeC r < 4294967296 := by
  have h0 : nan32 0 = false := by decide +kernel
  have hlt : oLt r 0 = decide (rk r < 0) := by
    have h2 := ord_rk hr h0
    unfold oLt
    rw [h2, show rk 0 = 0 from rfl]
    by_cases h : rk r < 0
    · rw [decide_eq_true h, Int.compare_eq_lt.2 h]; rfl
    · rw [decide_eq_false h]
      have : compare (rk r) 0 ≠ .lt := fun e => h (Int.compare_eq_lt.1 e)
      revert this
      cases compare (rk r) 0 <;> simp
  unfold sizeC
  rw [hlt, cn_fix hr]
  have hn := notNan_rung hr
  by_cases h : rk r < 0
  · rw [decide_eq_true h, if_pos rfl]
    obtain ⟨n1, n2, n3⟩ := neg_facts hl
    have hnn : nan32 (Op.negFloat .f32 r) = false := nan_rg (by rw [n1]; exact hn)
    unfold fneg
    rw [cn_fix hnn]
    exact ⟨hnn, by rw [n1]; exact hb, by omega, n3⟩
  · rw [decide_eq_false h, if_neg (by decide)]
    exact ⟨hr, hb, by omega, hl⟩
/-- A part by which a factor is off: a number, not negative, not very great. -/
def OffN (r : Nat) : Prop := nan32 r = false ∧ rg r ≤ 150 * 8388608 ∧ 0 ≤ rk r
theorem off_facts {f t : Nat} (hf : rg f < 134 * 8388608) (ht : tgB t = true) : OffN (offC f t) ∧ cn (offC f t) = offC f t := by
  unfold tgB at ht
  simp only [Bool.and_eq_true] at ht
  obtain ⟨t1, t2, t3, t4⟩ := between ht.1 ht.2 (by decide) (by decide)
  have hfn : nan32 f = false := nan_rg (by omega)
  obtain ⟨r, hr, hrb⟩ := sub_le (x := f) (y := t) (A := 138) (by omega) (by omega) (by decide) (by decide)
  have hrl := bits_lt hr
  have hrn : nan32 r = false := nan_rg (by omega)
  have hs : f2 .sub (cn f) (cn t) = r := by rw [cn_fix hfn, cn_fix t1]; unfold f2; rw [hr]; rfl
  obtain ⟨s1, s2, s3, s4⟩ := size_facts hrn hrl hrb
  obtain ⟨q, hq, hqb⟩ := quo_leT (x := sizeC r) (y := t) (A := 140) (B := 117) (C := 150) (by omega) (by omega) (by omega) (by decide) (by decide) (by decide) (by decide) (by decide) (by decide)
  have hqn : nan32 q = false := nan_rg (by omega)
  have e : offC f t = q := by
    unfold offC
    rw [hs, cn_fix t1]
    unfold f2
    rw [hq]
    rfl
  have h9 := quo_nn (x := sizeC r) (y := t) (A := 140) (B := 138) (by omega) (by omega) (by decide) (by decide) (by decide) (by decide) s3 (by omega) hq
  rw [e]
  exact ⟨⟨hqn, hqb, h9⟩, cn_fix hqn⟩
theorem off_rk {x y : Nat} (hx : nan32 x = false) (hy : nan32 y = false) : oLt x y = decide (rk x < rk y) := by
  have h2 := ord_rk hx hy
  unfold oLt
  rw [h2]
  by_cases h : rk x < rk y
  · rw [decide_eq_true h, Int.compare_eq_lt.2 h]; rfl
  · rw [decide_eq_false h]
    have : compare (rk x) (rk y) ≠ .lt := fun e => h (Int.compare_eq_lt.1 e)
    revert this
    cases compare (rk x) (rk y) <;> simp
theorem off_max {r : Nat} (h : OffN r) : oLt r 2139095039 = true := by
  have hm : nan32 2139095039 = false := by decide +kernel
  rw [off_rk h.1 hm, rk_nonneg h.2.2]
  have := h.2.1
  have e : rk 2139095039 = 2139095039 := by decide
  rw [e]
  exact decide_eq_true (by omega)
theorem off_self {r : Nat} (h : OffN r) : oLt r r = false := by rw [off_rk h.1 h.1]; exact decide_eq_false (by omega)
theorem off_zero {r z : Nat} (h : OffN r) (h0 : oEq z 0 = true) : oLt r z = false := by
  have h1 : FloatKind.f32.format.order z 0 = some .eq := by unfold oEq at h0; simpa using h0
  obtain ⟨hz, hn⟩ := not_nan_of_order h1
  rw [oEq_rk hz hn] at h0
  have := of_decide_eq_true h0
  rw [off_rk h.1 hz]
  rw [show rk 0 = 0 from rfl] at this
  exact decide_eq_false (by have := h.2.2; omega)
/-- The best pair so far, and by how much it is off. -/
def bstep (off : Nat × Nat → Nat) (s : (Nat × Nat) × Nat) (p : Nat × Nat) : (Nat × Nat) × Nat := if oLt (off p) s.2 then (p, off p) else s
def bestF (off : Nat × Nat → Nat) (l : List (Nat × Nat)) (s : (Nat × Nat) × Nat) : (Nat × Nat) × Nat := l.foldl (bstep off) s
theorem bestF_snoc (off : Nat × Nat → Nat) (l : List (Nat × Nat)) (p : Nat × Nat) (s : (Nat × Nat) × Nat) : bestF off (l ++ [p]) s = bstep off (bestF off l s) p := by unfold bestF; rw [List.foldl_append]; rfl
theorem bestF_stay {off : Nat × Nat → Nat} : ∀ {l : List (Nat × Nat)} {s : (Nat × Nat) × Nat}, (∀ p ∈ l, oLt (off p) s.2 = false) → bestF off l s = s
  | [], s, _ => rfl
  | p :: l, s, h => by
    show bestF off l (bstep off s p) = s
    have : bstep off s p = s := by unfold bstep; rw [h p (by simp)]; rfl
    rw [this]
    exact bestF_stay fun q hq => h q (List.mem_cons_of_mem _ hq)
theorem rowU_mem {a b : Nat} {p : Nat × Nat} (h : p ∈ rowU a b) : p.1 = a ∧ p.2 < b ∧ ¬ p.2 = a := by
  unfold rowU at h
  obtain ⟨j, hj, rfl⟩ := List.mem_map.1 h
  obtain ⟨h1, h2⟩ := List.mem_filter.1 hj
  exact ⟨rfl, List.mem_range.1 h1, by simpa using h2⟩
theorem prU_mem {n : Nat} {p : Nat × Nat} (h : p ∈ prU n n 0) : p.1 < n ∧ p.2 < n ∧ ¬ p.1 = p.2 := by
  unfold prU at h
  rw [rowU_zero, List.append_nil] at h
  obtain ⟨i, hi, hp⟩ := List.mem_flatMap.1 h
  obtain ⟨h1, h2, h3⟩ := rowU_mem hp
  have := List.mem_range.1 hi
  exact ⟨by omega, h2, by omega⟩
theorem prU_head {n : Nat} (h : 2 ≤ n) : ∃ l, prU n n 0 = (0, 1) :: l := by
  have h1 : prU n 0 2 <+: prU n n 0 := prU_pre (by omega) h
  obtain ⟨l, hl⟩ := h1
  have h2 : prU n 0 2 = [(0, 1)] := by
    show prU n 0 (1 + 1) = _
    rw [prU_ne (by decide)]
    show prU n 0 (0 + 1) ++ _ = _
    rw [prU_eq]
    rfl
  rw [h2] at hl
  exact ⟨l, hl.symm⟩
theorem best_same {off : Nat × Nat → Nat} {n : Nat} (hn : 2 ≤ n) (h : ∀ p ∈ prU n n 0, OffN (off p)) : bestF off (prU n n 0) ((0, 0), 2139095039) = bestF off (prU n n 0) ((0, 1), off (0, 1)) := by
  obtain ⟨l, hl⟩ := prU_head hn
  have h0 : OffN (off (0, 1)) := h (0, 1) (by rw [hl]; simp)
  rw [hl]
  show bestF off l (bstep off _ _) = bestF off l (bstep off _ _)
  unfold bstep
  dsimp only
  rw [off_max h0, off_self h0]
  rfl
theorem best_zero {off : Nat × Nat → Nat} {n : Nat} (h : ∀ p ∈ prU n n 0, OffN (off p)) {pre : List (Nat × Nat)} (hp : pre <+: prU n n 0) {s : (Nat × Nat) × Nat} (hz : oEq (bestF off pre s).2 0 = true) : bestF off (prU n n 0) s = bestF off pre s := by
  obtain ⟨l, hl⟩ := hp
  have e : bestF off (pre ++ l) s = bestF off l (bestF off pre s) := by unfold bestF; rw [List.foldl_append]
  rw [← hl, e]
  exact bestF_stay fun q hq => off_zero (h q (by rw [← hl]; exact List.mem_append_right _ hq)) hz
end Go.Proofs.Ytaodpopghacmaaa
