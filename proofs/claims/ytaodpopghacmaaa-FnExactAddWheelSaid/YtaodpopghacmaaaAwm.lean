/-
  The least that a pair of wheels is off does not depend on the order of the wheels.
-/
import Derived.Test.YtaodpopghacmaaaPtb
import Derived.Test.YtaodpopghacmaaaRn
namespace Go.Proofs.Ytaodpopghacmaaa
open Go.RowKit Go.ChangeShapes Go.WideShapes Go.Deep
set_option linter.unusedVariables false
set_option linter.unusedSimpArgs false
theorem small_of_sgn {x : Nat} (hx : x < 4294967296) (h : sgnB x = false) : x < 2147483648 := by
  unfold sgnB at h
  have h2 : ¬ x / 2147483648 % 2 = 1 := by simpa using h
  omega
theorem sgn_of_small {x : Nat} (h : x < 2147483648) : sgnB x = false := by
  unfold sgnB
  have : x / 2147483648 = 0 := by omega
  rw [this]
  rfl
theorem sgn_inf (s : Bool) : sgnB (Ieee.single.write (.infinity s)) = s := sgnB_word s (by decide)
theorem quo_sgn {x y r : Nat} (hx : rg x < 2139095040) (hy : rg y < 2139095040) (h : floatBits .quo .f32 x y = some r) : sgnB r = (sgnB x ^^ sgnB y) := by
  obtain ⟨m, k, e1, v1⟩ := read_number hx
  obtain ⟨n, l, e2, v2⟩ := read_number hy
  simp only [floatBits, FloatKind.format, Ieee.Format.div, e1, e2, Ieee.Datum.quotient] at h
  by_cases hn : n = 0
  · rw [if_pos hn] at h
    by_cases hm : m = 0
    · rw [if_pos hm] at h; cases h
    · rw [if_neg hm] at h
      simp only [Option.map_some, Option.some.injEq] at h
      rw [← h, sgn_inf]
      rfl
  · rw [if_neg hn] at h
    simp only [Option.map_some, Option.some.injEq] at h
    rw [← h]
    exact sgnB_nearest _ _ _
theorem sub_sgn {x y r : Nat} (hx : rg x < 2139095040) (hy : rg y < 2139095040) (sx : sgnB x = false) (sy : sgnB y = false) (h : floatBits .sub .f32 x y = some r) (hr : sgnB r = true) : V x - V y < 0 := by
  obtain ⟨m, k, e1, v1⟩ := read_number hx
  obtain ⟨n, l, e2, v2⟩ := read_number hy
  simp only [floatBits, FloatKind.format, Ieee.Format.sub, e1, e2, Ieee.Datum.opposite, Ieee.Datum.sum, Option.map_some, Option.some.injEq] at h
  have hb : min (-149 + (k : Int)) (-149 + (l : Int)) = -149 + ((min k l : Nat) : Int) := by omega
  rw [hb] at h
  have t1 : (-149 + (k : Int) - (-149 + ((min k l : Nat) : Int))).toNat = k - min k l := by omega
  have t2 : (-149 + (l : Int) - (-149 + ((min k l : Nat) : Int))).toNat = l - min k l := by omega
  rw [t1, t2] at h
  have s1 := signed_V (c := min k l) v1 (Nat.min_le_left _ _)
  have s2 := signed_V (c := min k l) v2 (Nat.min_le_right _ _)
  have flip : ∀ u, Ieee.signed (!(y / 2147483648 % 2 == 1)) n u = - Ieee.signed (y / 2147483648 % 2 == 1) n u := fun u => by
    unfold Ieee.signed
    cases (y / 2147483648 % 2 == 1) <;> simp
  rw [flip] at h
  have hp : 0 < 2 ^ min k l := Nat.two_pow_pos _
  rw [← h, show ∀ s m e, sgnB (Ieee.single.write (.number s m e)) = s from fun s m e => sgnB_nearest s m e] at hr
  have hx0 : (x / 2147483648 % 2 == 1) = false := sx
  have hy0 : (y / 2147483648 % 2 == 1) = false := sy
  rw [hx0] at hr s1
  rw [hy0] at hr s2
  generalize Ieee.signed false m (k - min k l) = A at *
  generalize Ieee.signed false n (l - min k l) = B at *
  have hneg : A + -B < 0 := by
    by_cases h0 : A + -B = 0
    · rw [if_pos h0] at hr; cases hr
    · rw [if_neg h0] at hr; exact of_decide_eq_true hr
  have hsum : V x - V y = (A + -B) * (2 ^ min k l : Nat) := by rw [← s1, ← s2, Int.add_mul, Int.neg_mul]; omega
  rw [hsum]
  exact Int.mul_neg_of_neg_of_pos hneg (by omega)
theorem fint_sgn {a : Int} (h : 0 ≤ a) : sgnB (floatOfInt .f32 a) = false := by
  have e : floatOfInt .f32 a = Ieee.single.nearest (decide (a < 0)) a.natAbs 0 := rfl
  rw [e, sgnB_nearest]
  exact decide_eq_false (by omega)
theorem quoT_small {a b : Int} (a1 : 6 ≤ a) (a2 : a ≤ 200) (b1 : 6 ≤ b) (b2 : b ≤ 200) : quoT a b < 2147483648 := by
  have h := quoT_some a1 a2 b1 b2
  have f1 := fint_rg a1 a2
  have f2 := fint_rg b1 b2
  have hs := quo_sgn (by omega) (by omega) h
  rw [fint_sgn (by omega), fint_sgn (by omega)] at hs
  exact small_of_sgn (bits_lt h) hs
theorem RN_one {k n : Nat} (h : 2 ^ k ≤ n) : 1 ≤ RN k n := RN_ge (r := 1) (by rw [show vl 1 = 1 from rfl, Nat.one_mul]; exact h)
theorem off_small {f t : Nat} (hf : rg f < 134 * 8388608) (hf2 : f < 2147483648) (ht : tgB t = true) (ht2 : t < 4294967296) : offC f t < 2147483648 := by
  have ht' := ht
  unfold tgB at ht'
  simp only [Bool.and_eq_true] at ht'
  obtain ⟨t1, t2, t3, t4⟩ := between ht'.1 ht'.2 (by decide) (by decide)
  have hfn : nan32 f = false := nan_rg (by omega)
  have tp : 0 < rk t := by omega
  have tw := word_of_rk ht2 tp
  have tsm : t < 2147483648 := by unfold rg at t2 t4; omega
  obtain ⟨r, hr, hrb⟩ := sub_le (x := f) (y := t) (A := 138) (by omega) (by omega) (by decide) (by decide)
  have hrl := bits_lt hr
  have hrn : nan32 r = false := nan_rg (by omega)
  have hs : f2 .sub (cn f) (cn t) = r := by rw [cn_fix hfn, cn_fix t1]; unfold f2; rw [hr]; rfl
  have h0 : nan32 0 = false := by decide +kernel
  have hrk := rk_sub (by omega) (by omega) hr
  have hsz : sizeC r < 2147483648 ∧ rg (sizeC r) ≤ 139 * 8388608 := by
    obtain ⟨q1, q2, q3, q4⟩ := size_facts hrn hrl hrb
    refine ⟨?_, by omega⟩
    cases hsg : sgnB r
    · have hrs := small_of_sgn hrl hsg
      have : oLt r 0 = false := by
        rw [off_rk hrn h0]
        refine decide_eq_false ?_
        rw [rk_small hrs, show rk 0 = 0 from rfl]
        omega
      unfold sizeC
      rw [this, cn_fix hrn]
      simpa using hrs
    · have hv := sub_sgn (by omega) (by omega) (sgn_of_small hf2) (sgn_of_small tsm) hr hsg
      have hneg : rk r < 0 := by
        rw [hrk]
        unfold RZ
        rw [if_pos hv]
        have := RN_one (k := 0) (n := (V f - V t).natAbs) (by rw [Nat.pow_zero]; omega)
        omega
      have : oLt r 0 = true := by
        rw [off_rk hrn h0]
        refine decide_eq_true ?_
        rw [show rk 0 = 0 from rfl]
        exact hneg
      obtain ⟨n1, n2, n3⟩ := neg_facts hrl
      have hnn : nan32 (Op.negFloat .f32 r) = false := nan_rg (by rw [n1]; omega)
      have e : sizeC r = Op.negFloat .f32 r := by
        unfold sizeC fneg
        rw [this, cn_fix hrn, if_pos rfl, cn_fix hnn]
      rw [e]
      refine small_of_sgn n3 ?_
      cases h2 : sgnB (Op.negFloat .f32 r)
      · rfl
      · have := rk_neg h2
        omega
  obtain ⟨q, hq, hqb⟩ := quo_leT (x := sizeC r) (y := t) (A := 140) (B := 117) (C := 150) (by omega) (by omega) (by omega) (by decide) (by decide) (by decide) (by decide) (by decide) (by decide)
  have e : offC f t = q := by
    unfold offC
    rw [hs, cn_fix t1]
    unfold f2
    rw [hq]
    rfl
  rw [e]
  have hqs := quo_sgn (x := sizeC r) (y := t) (by omega) (by omega) hq
  rw [sgn_of_small hsz.1, sgn_of_small tsm] at hqs
  exact small_of_sgn (bits_lt hq) hqs
/-- By how much two wheels are off. -/
def elO (t : Nat) (a b : Int) : Nat := offC (quoT a b) t
theorem elO_num {t : Nat} {a b : Int} (a1 : 6 ≤ a ∧ a ≤ 200) (b1 : 6 ≤ b ∧ b ≤ 200) (ht : tgB t = true) (ht2 : t < 4294967296) : elO t a b < 2147483648 ∧ nan32 (elO t a b) = false ∧ elO t a b ≤ 2139095039 := by
  have h1 := off_small (quoT_rg a1.1 a1.2 b1.1 b1.2) (quoT_small a1.1 a1.2 b1.1 b1.2) ht ht2
  have h2 := (off_facts (quoT_rg a1.1 a1.2 b1.1 b1.2) ht).1
  refine ⟨h1, h2.1, ?_⟩
  have h3 := h2.2.1
  rw [rg_small h1] at h3
  unfold elO
  omega
theorem lt_small {x y : Nat} (hx : nan32 x = false) (hy : nan32 y = false) (h1 : x < 2147483648) (h2 : y < 2147483648) : oLt x y = decide (x < y) := by
  rw [off_rk hx hy, rk_small h1, rk_small h2]
  exact decide_eq_decide.2 (by omega)
def NumS (x : Nat) : Prop := nan32 x = false ∧ x < 2147483648
theorem best_least {off : Nat × Nat → Nat} : ∀ (l : List (Nat × Nat)) (s : (Nat × Nat) × Nat), (∀ p ∈ l, NumS (off p)) → NumS s.2 →
    NumS (bestF off l s).2 ∧ (bestF off l s).2 ≤ s.2 ∧ (∀ p ∈ l, (bestF off l s).2 ≤ off p) ∧ ((bestF off l s).2 = s.2 ∨ ∃ p ∈ l, (bestF off l s).2 = off p)
  | [], s, _, hs => ⟨hs, Nat.le_refl _, (fun _ h => nomatch h), Or.inl rfl⟩
  | p :: l, s, h, hs => by
    have hp := h p (by simp)
    have hs' : NumS (bstep off s p).2 := by unfold bstep; split; exact hp; exact hs
    have e : (bstep off s p).2 = min s.2 (off p) := by
      unfold bstep
      rw [lt_small hp.1 hs.1 hp.2 hs.2]
      by_cases hh : off p < s.2
      · rw [decide_eq_true hh, if_pos rfl, Nat.min_eq_right (by omega)]
      · rw [decide_eq_false hh, if_neg (by decide), Nat.min_eq_left (by omega)]
    obtain ⟨a, b, c, d⟩ := best_least l (bstep off s p) (fun q hq => h q (List.mem_cons_of_mem _ hq)) hs'
    show NumS (bestF off l (bstep off s p)).2 ∧ (bestF off l (bstep off s p)).2 ≤ s.2 ∧ (∀ q ∈ p :: l, (bestF off l (bstep off s p)).2 ≤ off q) ∧ ((bestF off l (bstep off s p)).2 = s.2 ∨ ∃ q ∈ p :: l, (bestF off l (bstep off s p)).2 = off q)
    rw [e] at b d
    refine ⟨a, by omega, fun q hq => ?_, ?_⟩
    · rcases List.mem_cons.1 hq with rfl | hq
      · omega
      · exact c q hq
    · rcases d with d | ⟨q, hq, hd⟩
      · by_cases hh : off p < s.2
        · exact .inr ⟨p, by simp, by omega⟩
        · exact .inl (by omega)
      · exact .inr ⟨q, List.mem_cons_of_mem _ hq, hd⟩
theorem rowU_in {a b j : Nat} (h : j < b) (hne : ¬ a = j) : (a, j) ∈ rowU a b := by
  unfold rowU
  refine List.mem_map.2 ⟨j, List.mem_filter.2 ⟨List.mem_range.2 h, ?_⟩, rfl⟩
  simpa using fun e => hne e.symm
theorem prU_in {n i j : Nat} (hi : i < n) (hj : j < n) (hne : ¬ i = j) : (i, j) ∈ prU n n 0 := by
  unfold prU
  rw [rowU_zero, List.append_nil]
  exact List.mem_flatMap.2 ⟨i, List.mem_range.2 hi, rowU_in hj hne⟩
/-- What the least of a list of wheels is. -/
def LV (xs : List Int) (t r : Nat) : Prop := (∃ a b, a ∈ xs ∧ b ∈ xs ∧ a ≠ b ∧ r = elO t a b) ∧ ∀ a b, a ∈ xs → b ∈ xs → a ≠ b → r ≤ elO t a b
theorem LV.same {xs ys : List Int} {t r s : Nat} (h : LV xs t r) (k : LV ys t s) (hm : ∀ a, a ∈ xs ↔ a ∈ ys) : r = s := by
  obtain ⟨⟨a, b, ha, hb, hn, e⟩, h2⟩ := h
  obtain ⟨⟨c, d, hc, hd, hn', e'⟩, k2⟩ := k
  have h3 := h2 c d ((hm c).2 hc) ((hm d).2 hd) hn'
  have k3 := k2 a b ((hm a).1 ha) ((hm b).1 hb) hn
  omega
theorem nodup_ne {xs : List Int} (h : xs.Nodup) {i j : Nat} {a b : Int} (hi : xs[i]? = some a) (hj : xs[j]? = some b) (hne : ¬ i = j) : a ≠ b := by
  intro e
  subst e
  obtain ⟨h1, e1⟩ := List.getElem?_eq_some_iff.1 hi
  obtain ⟨h2, e2⟩ := List.getElem?_eq_some_iff.1 hj
  have hp := List.pairwise_iff_getElem.1 h
  rcases Nat.lt_or_ge i j with h3 | h3
  · exact hp i j h1 h2 h3 (e1.trans e2.symm)
  · exact hp j i h2 h1 (by omega) (e2.trans e1.symm)
theorem lv_of {xs : List Int} {t : Nat} {off : Nat × Nat → Nat} (hx : TeZ xs) (hn : xs.Nodup) (ht : tgB t = true) (ht2 : t < 4294967296)
    (ho : ∀ i j a b, xs[i]? = some a → xs[j]? = some b → off (i, j) = elO t a b) {s : (Nat × Nat) × Nat} (hs : NumS s.2) (h1 : s.2 = 2139095039 ∨ s.2 = off (0, 1)) :
    LV xs t (bestF off (prU xs.length xs.length 0) s).2 ∧ NumS (bestF off (prU xs.length xs.length 0) s).2 := by
  obtain ⟨⟨h2, _⟩, hte⟩ := hx
  have at' : ∀ i, i < xs.length → ∃ a, xs[i]? = some a ∧ a ∈ xs ∧ 6 ≤ a ∧ a ≤ 200 := fun i hi => ⟨xs[i], List.getElem?_eq_getElem hi, List.getElem_mem hi, hte i _ (List.getElem?_eq_getElem hi)⟩
  have hnum : ∀ p ∈ prU xs.length xs.length 0, NumS (off p) := fun p hp => by
    obtain ⟨p1, p2, p3⟩ := prU_mem hp
    obtain ⟨a, ea, ma, ba⟩ := at' _ p1
    obtain ⟨b, eb, mb, bb⟩ := at' _ p2
    rw [show p = (p.1, p.2) from rfl, ho _ _ a b ea eb]
    have := elO_num ba bb ht ht2
    exact ⟨this.2.1, this.1⟩
  obtain ⟨b1, b2, b3, b4⟩ := best_least (off := off) (prU xs.length xs.length 0) s hnum hs
  refine ⟨⟨?_, fun a b ha hb hne => ?_⟩, b1⟩
  · have fromp : ∀ p ∈ prU xs.length xs.length 0, ∃ a b, a ∈ xs ∧ b ∈ xs ∧ a ≠ b ∧ off p = elO t a b := fun p hp => by
      obtain ⟨p1, p2, p3⟩ := prU_mem hp
      obtain ⟨a, ea, ma, ba⟩ := at' _ p1
      obtain ⟨b, eb, mb, bb⟩ := at' _ p2
      exact ⟨a, b, ma, mb, nodup_ne hn ea eb p3, ho _ _ a b ea eb⟩
    have h01 : (0, 1) ∈ prU xs.length xs.length 0 := prU_in (by omega) (by omega) (by decide)
    rcases b4 with e | ⟨p, hp, e⟩
    · rcases h1 with h1 | h1
      · obtain ⟨a, b, ma, mb, hne, ee⟩ := fromp _ h01
        refine ⟨a, b, ma, mb, hne, ?_⟩
        have h3 := b3 _ h01
        obtain ⟨i, hi⟩ := List.getElem?_of_mem ma
        obtain ⟨j, hj⟩ := List.getElem?_of_mem mb
        have := (elO_num (hte _ _ hi) (hte _ _ hj) ht ht2).2.2
        omega
      · obtain ⟨a, b, ma, mb, hne, ee⟩ := fromp _ h01
        exact ⟨a, b, ma, mb, hne, by rw [e, h1, ee]⟩
    · obtain ⟨a, b, ma, mb, hne, ee⟩ := fromp _ hp
      exact ⟨a, b, ma, mb, hne, by rw [e, ee]⟩
  · obtain ⟨i, hi⟩ := List.getElem?_of_mem ha
    obtain ⟨j, hj⟩ := List.getElem?_of_mem hb
    have hij : ¬ i = j := fun e => by subst e; rw [hi] at hj; cases hj; exact hne rfl
    have := b3 (i, j) (prU_in (List.getElem?_eq_some_iff.1 hi).1 (List.getElem?_eq_some_iff.1 hj).1 hij)
    rwa [ho _ _ a b hi hj] at this
end Go.Proofs.Ytaodpopghacmaaa
