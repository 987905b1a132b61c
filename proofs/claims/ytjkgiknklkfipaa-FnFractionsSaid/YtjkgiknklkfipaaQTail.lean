/-
  A region that draws its order: quiet operations first, whatever their order, and then, when all of them have come up, the others one behind the other.
-/
import Derived.Deep.Quiet
import Derived.Deep.QuietTactic
import Derived.BigQuiet
import Derived.StillTail
namespace Go.Proofs.Ytjkgiknklkfipaa
open Go
set_option linter.unusedVariables false
set_option linter.unusedSimpArgs false
/-- Operation o waits for operation i. -/
def waits (md : Region.Mode) (o : Oper) (i : Nat) : Bool := o.after.any fun e => Region.binds md e && e.on == i
theorem waits_spec {md : Region.Mode} {o : Oper} {i : Nat} (h : waits md o i = true) {listed : Array Bool} (ha : ∀ e ∈ o.after, Region.binds md e = true → listed.getD e.on false = true) : listed.getD i false = true := by
  unfold waits at h
  obtain ⟨e, he, hb⟩ := Array.any_eq_true'.1 h
  simp only [Bool.and_eq_true, beq_iff_eq] at hb
  have := ha e he hb.1
  rwa [hb.2] at this
/-- The first n operations bear no guard, and wait for earlier ones alone. -/
def headB (md : Region.Mode) (l : List Oper) (n : Nat) : Bool := (List.range n).all fun i => match l[i]? with
  | some o => o.guard.isNone && o.after.all fun e => !Region.binds md e || decide (e.on < i)
  | none => false
/-- The next one waits for all of them, and each further one for the one before it. -/
def footB (md : Region.Mode) (l : List Oper) (n : Nat) : Bool := (match l[n]? with
  | some o => (List.range n).all fun i => waits md o i
  | none => false) && (List.range l.length).all fun t => decide (t ≤ n) || match l[t]? with
  | some o => waits md o (t - 1)
  | none => false
/-- The first n have come up, no other. -/
def listN (n m : Nat) : Array Bool := (List.replicate n true ++ List.replicate m false).toArray
def tailB (md : Region.Mode) (l : List Oper) (n : Nat) : Bool := decide (n < l.length) && (headB md l n && (footB md l n && Region.seqB md l.toArray (l.length - n) n (listN n (l.length - n))))
theorem headB_spec {md : Region.Mode} {l : List Oper} {n i : Nat} {o : Oper} (h : headB md l n = true) (hi : i < n) (ho : l[i]? = some o) : o.guard = none ∧ ∀ e ∈ o.after, Region.binds md e = true → e.on < i := by
  have h1 := List.all_eq_true.1 h i (List.mem_range.2 hi)
  rw [ho] at h1
  simp only [Bool.and_eq_true, Option.isNone_iff_eq_none, Array.all_eq_true_iff_forall_mem, Bool.or_eq_true, Bool.not_eq_true', decide_eq_true_eq] at h1
  refine ⟨h1.1, fun e he hb => ?_⟩
  rcases h1.2 e he with h | h
  · rw [hb] at h; cases h
  · exact h
theorem rep_getD {m i : Nat} (h : i < m) : (Array.replicate m false).getD i true = false := by simp [h]
section
variable {P : Program} {C : World → Prop} {md : Region.Mode} {l : List Oper} {n g : Nat}
/-- The least operation that has not come up may come up. -/
theorem least_ready (hh : headB md l n = true) (hn : n < l.length) {lp : Array Bool} (hs : lp.size = n) {j : Nat} (hj : j < n) (hf : lp.getD j true = false) : ∃ i, i ∈ Region.ready md (l.take n).toArray lp := by
  induction j using Nat.strongRecOn with
  | _ j ih =>
    by_cases hex : ∃ i, i < j ∧ lp.getD i true = false
    · obtain ⟨i, h1, h2⟩ := hex
      exact ih i h1 (by omega) h2
    · refine ⟨j, mem_ready.2 ⟨hf, l[j], by simp [hj], fun e he hb => ?_⟩⟩
      have hlt := (headB_spec hh hj (List.getElem?_eq_getElem (by omega : j < l.length))).2 e he hb
      have : ¬ lp.getD e.on true = false := fun h => hex ⟨e.on, hlt, h⟩
      have he2 : e.on < lp.size := by omega
      simp [he2] at this ⊢
      exact this
theorem quiet_then {R : Act → Prop} {Q : Exit → Act → World → Prop} (hn : n < l.length) (hh : headB md l n = true) (hft : footB md l n = true)
    (hL : ∀ a w, C w → R a → wpAny P md l.toArray Q g (listN n (l.length - n)) a w) :
    ∀ (fuel : Nat) (lp L : Array Bool) (a : Act) (w : World), lp.size = n → L.size = l.length → (∀ i, i < n → L.getD i true = lp.getD i true) → (∀ t, n ≤ t → t < l.length → L.getD t true = false) → lp.toList.count false = fuel → C w →
      wpAnyQ P md (l.take n).toArray C R fuel lp a → wpAny P md l.toArray Q (fuel + g) L a w := by
  intro fuel
  induction fuel with
  | zero =>
    intro lp L a w hs hS hp ht hc hC h
    rw [Nat.zero_add]
    have hall : ∀ i, i < n → lp.getD i true = true := fun i hi => by
      cases hb : lp.getD i true with
      | true => rfl
      | false =>
        have hi' : i < lp.size := by omega
        have : false ∈ lp.toList := by
          simp [hi'] at hb
          rw [← hb]
          simp
        exact absurd this (List.count_eq_zero.1 hc)
    have e : L = listN n (l.length - n) := by
      apply Array.ext
      · rw [hS]; simp [listN]; omega
      · intro i h1 h2
        by_cases hi : i < n
        · have a1 := hp i hi
          rw [hall i hi] at a1
          simp [h1] at a1
          rw [a1]
          simp [listN, hi]
        · have a1 := ht i (by omega) (by omega)
          simp [h1] at a1
          rw [a1]
          simp [listN, List.getElem_append, hi]
    rw [e]
    exact hL a w hC h.2
  | succ fuel ih =>
    intro lp L a w hs hS hp ht hc hC h
    have hex : ∃ j, j < n ∧ lp.getD j true = false := by
      have hm : false ∈ lp.toList := List.count_pos_iff.1 (by omega)
      obtain ⟨j, hj, e⟩ := List.getElem_of_mem hm
      have hj' : j < lp.size := by simpa using hj
      exact ⟨j, by omega, by simp [hj']; simpa using e⟩
    obtain ⟨j, hj, hjf⟩ := hex
    obtain ⟨i0, hi0⟩ := least_ready hh hn hs hj hjf
    rw [show fuel + 1 + g = (fuel + g) + 1 by omega]
    -- what may come up here is one of the first n
    have hsame : ∀ i, i ∈ Region.ready md l.toArray L → i < n ∧ i ∈ Region.ready md (l.take n).toArray lp := fun i hi => by
      obtain ⟨h1, o, ho, hall⟩ := mem_ready.1 hi
      have hol : l[i]? = some o := by simpa using ho
      have hlt : i < l.length := (List.getElem?_eq_some_iff.1 hol).1
      have hin : i < n := by
        rcases Nat.lt_trichotomy i n with x | x | x
        · exact x
        · subst x
          unfold footB at hft
          rw [hol] at hft
          simp only [Bool.and_eq_true] at hft
          have hw := waits_spec (List.all_eq_true.1 hft.1 j (List.mem_range.2 hj)) hall
          have h2 := hp j hj
          rw [hjf] at h2
          have hjL : j < L.size := by omega
          simp [hjL] at hw h2
          rw [hw] at h2
          cases h2
        · unfold footB at hft
          simp only [Bool.and_eq_true] at hft
          have h2 := List.all_eq_true.1 hft.2 i (List.mem_range.2 hlt)
          rw [hol] at h2
          simp only [Bool.or_eq_true, decide_eq_true_eq] at h2
          rcases h2 with h2 | h2
          · omega
          · have hw := waits_spec h2 hall
            have h3 := ht (i - 1) (by omega) (by omega)
            have hiL : i - 1 < L.size := by omega
            simp [hiL] at hw h3
            rw [hw] at h3
            cases h3
      refine ⟨hin, mem_ready.2 ⟨by rw [← hp i hin]; exact h1, o, by simp [hin]; exact hol, fun e he hb => ?_⟩⟩
      have hlt2 := (headB_spec hh hin hol).2 e he hb
      have h2 := hall e he hb
      have h3 := hp e.on (by omega)
      have e1 : e.on < L.size := by omega
      have e2 : e.on < lp.size := by omega
      simp [e1] at h2 h3
      simp [e2] at h3 ⊢
      rw [← h3]
      exact h2
    refine ⟨fun h0 => ?_, fun i hi => ?_⟩
    · -- something may come up
      obtain ⟨h1, o, ho, hall⟩ := mem_ready.1 hi0
      have hi0n : i0 < n := by
        have := (Array.getElem?_eq_some_iff.1 ho).1
        simp at this
        omega
      have hol : l[i0]? = some o := by simpa [hi0n] using ho
      have : i0 ∈ Region.ready md l.toArray L := mem_ready.2 ⟨by rw [hp i0 hi0n]; exact h1, o, by simpa using hol, fun e he hb => by
        have hlt2 := (headB_spec hh hi0n hol).2 e he hb
        have h2 := hall e he hb
        have h3 := hp e.on (by omega)
        have e1 : e.on < L.size := by omega
        have e2 : e.on < lp.size := by omega
        simp [e2] at h2 h3
        simp [e1] at h3 ⊢
        rw [h3]
        exact h2⟩
      rw [h0] at this
      cases this
    · obtain ⟨hin, hi'⟩ := hsame i hi
      obtain ⟨h1, o, ho, hall⟩ := mem_ready.1 hi
      have hol : l[i]? = some o := by simpa using ho
      have hq := h.2 i hi'
      have hop : (l.take n).toArray[i]? = some o := by simp [hin]; exact hol
      have hgd := (headB_spec hh hin hol).1
      unfold qOp at hq
      simp only [hop, Region.wanted, hgd, if_true] at hq
      unfold wpOp
      simp only [ho, Region.wanted, hgd, if_true]
      left
      refine Oper.wp_of_quiet hC (fun a' w' hw' hk => ?_) hq
      have hilp : i < lp.size := by omega
      have hfalse : lp.getD i true = false := (mem_ready.1 hi').1
      refine ih (lp.setIfInBounds i true) (L.setIfInBounds i true) a' w' (by simpa using hs) (by simpa using hS) (fun k hk2 => ?_) (fun t h2 h3 => ?_) ?_ hw' hk
      · by_cases e : i = k
        · subst e
          have : i < L.size := by omega
          simp [hilp, this]
        · rw [getD_set_ne true e, getD_set_ne true e]
          exact hp k hk2
      · rw [getD_set_ne true (by omega)]
        exact ht t h2 h3
      · rw [Array.toList_setIfInBounds, List.count_set (by simpa using hilp)]
        simp [hilp] at hfalse
        simp [hfalse, hc]
/-- The law: at the class of worlds behind some draws. -/
theorem wp_quiet_tail {id : Nat} {Q : Exit → Act → World → Prop} {a : Act} {w : World} {l : List Oper} (n : Nat) (hm : P.follows .mixedOrders = true) (hB : Region.lexB .any (l.take n).toArray = true) (hT : tailB .any l n = true)
    (h : wpQuiet P (l.take n).toArray (fun w' => ∃ m, w' = w.drewN m) (fun a' => ∀ w', (∃ m, w' = w.drewN m) → wpList P l.toArray Q (l.drop n) a' w') (l.take n) a) : (Code.region id l.toArray true).wp P Q a w := by
  unfold tailB at hT
  simp only [Bool.and_eq_true, decide_eq_true_eq] at hT
  obtain ⟨hn, hh, hft, hseq⟩ := hT
  unfold Region.lexB at hB
  simp only [Bool.and_eq_true] at hB
  have htl : (l.take n).length = n := by simp; omega
  have H := wpAnyQ_lex (P := P) (C := fun w' => ∃ m, w' = w.drewN m) (md := .any) hB.1 (l.take n) 0 (Array.replicate (l.take n).toArray.size false) a (by simp) (by rw [htl]; simpa [htl] using hB.2) h
  rw [htl] at H
  refine wp_region_any hm ?_
  have hg : l.toArray.size = n + (l.length - n) := by simp; omega
  rw [hg]
  refine quiet_then (C := fun w' => ∃ m, w' = w.drewN m) (g := l.length - n) hn hh hft (fun a' w' hw' hR => ?_) n _ _ a _ (by simp; omega) (by simp; omega) (fun i hi => ?_) (fun t h1 h2 => ?_) ?_ ⟨1, rfl⟩ H
  · have := wpAny_of_seq (P := P) (ops := l.toArray) (md := .any) (Q' := Q) (l.drop n) n (listN n (l.length - n)) a' w' (fun j => by simp [List.getElem?_drop]) (by simpa using hseq) (hR w' hw')
    simpa using this
  · rw [rep_getD (by omega), rep_getD (by simp; omega)]
  · rw [rep_getD (by omega)]
  · simp
    omega
end
end Go.Proofs.Ytjkgiknklkfipaa
