/-
  Two trains joined.
-/
import Derived.Test.YtolbacgfcobmdaaTrR
namespace Go.Proofs.Ytolbacgfcobmdaa
open Go.RowKit Go.ChangeShapes Go.WideShapes Go.Deep
attribute [local go_sem ↓] Go.wp_at_zero Go.wp_at_succ
set_option linter.unusedVariables false
set_option linter.unusedSimpArgs false
theorem own_base {w : World} {base : Nat} {e : TypeId} {size : Nat} {v : Value} {n : Nat} {xs : List Value} (h : w.ownsRow base e size v n xs) : ∀ k, v.ownBlock = some k → base ≤ k ∧ k < w.heap.size := fun k hk => by
  rcases h.2 with ⟨rfl, _⟩ | ⟨g, cap, cur, rfl, hb, hg, _⟩
  · cases hk
  · cases hk
    refine ⟨hb, ?_⟩
    rcases Nat.lt_or_ge g w.heap.size with hlt | hge
    · exact hlt
    · rw [Array.getElem?_eq_none hge] at hg; cases hg
theorem own_empty (w : World) (base : Nat) (e : TypeId) (size : Nat) (hb : base ≤ w.heap.size) : (w.alloc (.cells #[] e)).ownsRow base e size (.slice (some ⟨w.heap.size, 0, none⟩) 0 0) 0 [] :=
  ⟨by simp, .inr ⟨w.heap.size, 0, #[], rfl, hb, heap_alloc_new w _, Nat.le_refl _, Nat.zero_le _, by simp, by simp⟩⟩
theorem own_more {w : World} {base base' : Nat} {e : TypeId} {size : Nat} {v : Value} {n : Nat} {xs : List Value} (h : w.ownsRow base e size v n xs) (hb : base' ≤ base) : w.ownsRow base' e size v n xs := by
  rcases h with ⟨h1, h2 | ⟨g, cap, cur, rfl, h3, rest⟩⟩
  · exact ⟨h1, .inl h2⟩
  · exact ⟨h1, .inr ⟨g, cap, cur, rfl, Nat.le_trans hb h3, rest⟩⟩
def joinB (ps qs : List Pr) : Bool := okTr ps && okTr qs
def joinS (ps qs : List Pr) : Bool := decide (ps.length + qs.length ≤ 8)
def joinT (ps qs : List Pr) : List Pr := if joinB ps qs then (if joinS ps qs then ps ++ qs else []) else []
def joinK (ps qs : List Pr) : Int := if joinB ps qs then (if joinS ps qs then 0 else 3) else 1
theorem joinT_le (ps qs : List Pr) : (joinT ps qs).length ≤ 8 := by
  unfold joinT joinS
  split
  · split
    · rename_i h
      simpa using h
    · simp
  · simp
set_option maxRecDepth 100000 in
set_option maxHeartbeats 2000000 in
theorem specJoin_any (A A' : Option Addr) (n n' c c' : Nat) (ps qs : List Pr) (w : World) (hl : ps.length = n) (hl' : qs.length = n') (hn : n ≤ 1048576) (hn' : n' ≤ 1048576) (hT : Tr w w.heap.size A ps) (hT' : Tr w w.heap.size A' qs) (hw : ∀ p ∈ ps, p.wf) (hw' : ∀ p ∈ qs, p.wf) :
    Calls Try.prog 21 #[.slice A n c, .slice A' n' c'] w (TLC (joinT ps qs) (joinK ps qs) w) := by
  obtain ⟨i0, hi, hz0, hz1, hz2⟩ := info_parts infoPair
  have Hl := Lib.hid hl; clear hl
  have Hl' := Lib.hid hl'; clear hl'
  have HT := Lib.hid hT; clear hT
  have HT' := Lib.hid hT'; clear hT'
  have Hw := Lib.hid hw; clear hw
  have Hw' := Lib.hid hw'; clear hw'
  unfold joinT joinK joinB
  rcases Bool.eq_false_or_eq_true (okTr ps) with h1 | h1 <;> rcases Bool.eq_false_or_eq_true (okTr qs) with h2 | h2
  · simp only [h1, h2, Bool.and_self, if_true]
    have z1 := size_bounds h1
    have z2 := size_bounds h2
    rw [Hl.out] at z1
    rw [Hl'.out] at z2
    by_cases hs : 8 < n + n'
    · have e1 : joinS ps qs = false := by unfold joinS; rw [Hl.out, Hl'.out]; simp; omega
      simp only [e1, Bool.false_eq_true, if_false]
      clear e1
      have z3 : (8 : Int) < (n : Int) + (n' : Int) := by omega
      go_enter Try.func21, Try.ntmps21
      go_wp2_with fail
      refine (l01Ok_any _ _ _ ps _ Hl.out hn HT.out Hw.out).mono ?_
      rintro e w1 ⟨rfl, rfl⟩
      go_wp2_with fail
      refine (l01Ok_any _ _ _ qs _ Hl'.out hn' HT'.out Hw'.out).mono ?_
      rintro e w1 ⟨rfl, rfl⟩
      go_wp2
      go_ret2
      exact tlc_of_row (ps := []) (own_empty _ _ _ _ (Nat.le_refl _)) ((Below.refl _ _).alloc (Nat.le_refl _) _)
    · have e1 : joinS ps qs = true := by unfold joinS; rw [Hl.out, Hl'.out]; simp; omega
      simp only [e1, if_true]
      clear e1
      have z3 : ¬ (8 : Int) < (n : Int) + (n' : Int) := by omega
      obtain ⟨b, off, rfl, hbs, hc⟩ := HT.out (by rw [Hl.out]; omega)
      obtain ⟨b', off', rfl, hbs', hc'⟩ := HT'.out (by rw [Hl'.out]; omega)
      have Hc := Lib.hid hc; have Hc' := Lib.hid hc'
      clear hc hc'
      go_enter Try.func21, Try.ntmps21
      go_wp2_with fail
      refine (l01Ok_any _ _ _ ps _ Hl.out hn HT.out Hw.out).mono ?_
      rintro e w1 ⟨rfl, rfl⟩
      go_wp2_with fail
      refine (l01Ok_any _ _ _ qs _ Hl'.out hn' HT'.out Hw'.out).mono ?_
      rintro e w1 ⟨rfl, rfl⟩
      have N1 : Hid (∀ j u, (ps.flatMap Pr.cells)[j]? = some u → (w.alloc (.cells #[] 62)).cell? ((⟨b, off, none⟩ : Addr).add j) = some u) := Tr.news fun i p hp => rangeAt_of_block (Hc.out i p hp) (((Below.refl _ w).alloc (Nat.le_refl _) _).block b hbs)
      go_wp2_with (first
        | (at_builtin; refine wpList_append_own _ rfl (.tmp 22) (.tmp 23) 28 rfl w.heap.size 62 i0 _ 3 8 Try.underlying28 hi hz0 hz1 hz2 rfl (by omega) _ 0 [] rfl (own_empty _ _ _ _ (Nat.le_refl _)) _ n _ (ps.flatMap Pr.cells) rfl (by rw [flat_len, Hl.out]) N1.out (flat_one ps) (by unfold maxLen; omega) (by omega) (by simp) ?_; intro v9 w9 hown9 hgrow9 hif9; have B9 : Hid (Below w.heap.size w w9) := ((Below.refl _ _).alloc (Nat.le_refl _) _).grown hgrow9 (by simp) (fun k h => by cases h; exact Nat.le_refl _); have O9 := Lib.hid hown9; clear hown9 hgrow9 hif9; have N2 : Hid (∀ j u, (qs.flatMap Pr.cells)[j]? = some u → w9.cell? ((⟨b', off', none⟩ : Addr).add j) = some u) := Tr.news fun i p hp => rangeAt_of_block (Hc'.out i p hp) (B9.out.block b' hbs'))
        | (at_builtin; refine wpList_append_own _ rfl (.tmp 24) (.tmp 25) 28 rfl w.heap.size 62 i0 _ 3 8 Try.underlying28 hi hz0 hz1 hz2 rfl (by omega) _ (0 + n) ([] ++ ps.flatMap Pr.cells) rfl O9.out _ n' _ (qs.flatMap Pr.cells) rfl (by rw [flat_len, Hl'.out]) N2.out (flat_one qs) (by unfold maxLen; omega) (by omega) B9.out.size ?_; intro v8 w8 hown8 hgrow8 hif8))
      have B8 : Hid (Below w.heap.size w w8) := B9.out.grown hgrow8 B9.out.size (fun k h => (own_base O9.out k h).1)
      have O8 : Hid (w8.ownsRow w.heap.size 62 3 v8 (0 + n + n') ((ps ++ qs).flatMap Pr.cells)) := by
        rw [List.flatMap_append]
        exact hown8
      clear hown8 hgrow8 hif8
      go_wp2
      go_ret2
      exact tlc_of_row O8.out B8.out
  all_goals
    simp only [h1, h2, Bool.and_self, Bool.and_false, Bool.false_and, Bool.and_true, Bool.true_and, if_true, if_false, Bool.false_eq_true]
    go_enter Try.func21, Try.ntmps21
    go_wp2_with fail
    refine (l01Ok_any _ _ _ ps _ Hl.out hn HT.out Hw.out).mono ?_
    rintro e w1 ⟨rfl, rfl⟩
    go_wp2_with (go_at_call 35; refine (l01Ok_any _ _ _ qs _ Hl'.out hn' HT'.out Hw'.out).mono ?_; rintro e w1 ⟨rfl, rfl⟩)
    go_ret2
    exact tlc_of_row (ps := []) (own_empty _ _ _ _ (Nat.le_refl _)) ((Below.refl _ _).alloc (Nat.le_refl _) _)
set_option maxRecDepth 100000 in
theorem start_any (A : Option Addr) (n c k : Nat) (w : World) (hk : k ≤ n) (hnc : n ≤ c) (hc : c ≤ maxLen) :
    Calls Try.prog 45 #[.slice A n c, .int .i64 k] w fun e w' => e = .returned (.slice A k k) ∧ w = w' := by
  unfold maxLen at hc
  go_enter Try.func45, Try.ntmps45
  go_wp2
  go_ret
  exact ⟨rfl, rfl⟩
set_option maxRecDepth 100000 in
set_option maxHeartbeats 2000000 in
theorem implJoin_any (A A' : Option Addr) (n n' c c' : Nat) (ps qs : List Pr) (w : World) (hl : ps.length = n) (hl' : qs.length = n') (hn : n ≤ 1048576) (hn' : n' ≤ 1048576) (hnc : n ≤ c) (hcm : c ≤ maxLen) (hT : Tr w w.heap.size A ps) (hT' : Tr w w.heap.size A' qs) (hw : ∀ p ∈ ps, p.wf) (hw' : ∀ p ∈ qs, p.wf) :
    Calls Try.prog 22 #[.slice A n c, .slice A' n' c'] w (TLC (joinT ps qs) (joinK ps qs) w) := by
  obtain ⟨i0, hi, hz0, hz1, hz2⟩ := info_parts infoPair
  have Hl := Lib.hid hl; clear hl
  have Hl' := Lib.hid hl'; clear hl'
  have HT := Lib.hid hT; clear hT
  have HT' := Lib.hid hT'; clear hT'
  have Hw := Lib.hid hw; clear hw
  have Hw' := Lib.hid hw'; clear hw'
  unfold joinT joinK joinB
  rcases Bool.eq_false_or_eq_true (okTr ps) with h1 | h1 <;> rcases Bool.eq_false_or_eq_true (okTr qs) with h2 | h2
  · simp only [h1, h2, Bool.and_self, if_true]
    have z1 := size_bounds h1
    have z2 := size_bounds h2
    rw [Hl.out] at z1
    rw [Hl'.out] at z2
    by_cases hs : 8 < n + n'
    · have e1 : joinS ps qs = false := by unfold joinS; rw [Hl.out, Hl'.out]; simp; omega
      simp only [e1, Bool.false_eq_true, if_false]
      clear e1
      have z3 : (8 : Int) < (n : Int) + (n' : Int) := by omega
      go_enter Try.func22, Try.ntmps22
      go_wp2_with fail
      refine (validTrain_any _ _ _ ps _ Hl.out hn HT.out Hw.out).mono ?_
      rintro e w1 ⟨rfl, b1⟩
      have B1 := Lib.hid b1; clear b1
      go_wp2_with fail
      refine (validTrain_any _ _ _ qs _ Hl'.out hn' (HT'.out.keep B1.out) Hw'.out).mono ?_
      rintro e w2 ⟨rfl, b2⟩
      have B2 : Hid (Below w.heap.size w w2) := bthen B1.out b2
      clear b2
      go_wp2
      go_ret2
      exact tlc_of_row (ps := []) (World.ownsRow_nil _ _ _ _) B2.out
    · have e1 : joinS ps qs = true := by unfold joinS; rw [Hl.out, Hl'.out]; simp; omega
      simp only [e1, if_true]
      clear e1
      have z3 : ¬ (8 : Int) < (n : Int) + (n' : Int) := by omega
      obtain ⟨b, off, rfl, hbs, hc⟩ := HT.out (by rw [Hl.out]; omega)
      obtain ⟨b', off', rfl, hbs', hc'⟩ := HT'.out (by rw [Hl'.out]; omega)
      have Hc := Lib.hid hc; have Hc' := Lib.hid hc'
      clear hc hc'
      go_enter Try.func22, Try.ntmps22
      go_wp2_with fail
      refine (validTrain_any _ _ _ ps _ Hl.out hn HT.out Hw.out).mono ?_
      rintro e w1 ⟨rfl, b1⟩
      have B1 := Lib.hid b1; clear b1
      go_wp2_with fail
      refine (validTrain_any _ _ _ qs _ Hl'.out hn' (HT'.out.keep B1.out) Hw'.out).mono ?_
      rintro e w2 ⟨rfl, b2⟩
      have B2 : Hid (Below w.heap.size w w2) := bthen B1.out b2
      clear b2
      go_wp2_with fail
      refine (start_any _ _ _ _ _ (Nat.le_refl _) hnc hcm).mono ?_
      rintro e w3 ⟨rfl, rfl⟩
      have N1 : Hid (∀ j u, (ps.flatMap Pr.cells)[j]? = some u → w2.cell? ((⟨b, off, none⟩ : Addr).add j) = some u) := Tr.news fun i p hp => rangeAt_of_block (Hc.out i p hp) (B2.out.block b hbs)
      have N2 : Hid (∀ j u, (qs.flatMap Pr.cells)[j]? = some u → w2.cell? ((⟨b', off', none⟩ : Addr).add j) = some u) := Tr.news fun i p hp => rangeAt_of_block (Hc'.out i p hp) (B2.out.block b' hbs')
      go_wp2_with (at_builtin; refine wpList_append_grows _ rfl _ _ 28 rfl 62 i0 _ 3 8 Try.underlying28 hi hz0 hz1 hz2 rfl (by omega) (some ⟨b, off, none⟩) n n (ps.flatMap Pr.cells) rfl (fun h => by cases h) (by rw [flat_len, Hl.out]) (fun x hx => by cases hx; exact N1.out) _ n' _ (qs.flatMap Pr.cells) rfl (by rw [flat_len, Hl'.out]) N2.out (flat_one qs) (by omega) (by unfold maxLen; omega) (by omega) ?_; intro v8 w8 hown8 hgrow8)
      have B8 : Hid (Below w.heap.size w w8) := B2.out.grown hgrow8 B2.out.size (fun k h => by cases h)
      have O8 : Hid (w8.ownsRow w2.heap.size 62 3 v8 (n + n') ((ps ++ qs).flatMap Pr.cells)) := by
        rw [List.flatMap_append]
        exact hown8
      clear hown8 hgrow8
      go_wp2
      go_ret2
      exact tlc_of_row (own_more O8.out B2.out.size) B8.out
  all_goals
    simp only [h1, h2, Bool.and_self, Bool.and_false, Bool.false_and, Bool.and_true, Bool.true_and, if_true, if_false, Bool.false_eq_true]
    go_enter Try.func22, Try.ntmps22
    go_wp2_with fail
    refine (validTrain_any _ _ _ ps _ Hl.out hn HT.out Hw.out).mono ?_
    rintro e w1 ⟨rfl, b1⟩
    have B1 := Lib.hid b1; clear b1
    first
      | (go_wp2_with fail
         refine (validTrain_any _ _ _ qs _ Hl'.out hn' (HT'.out.keep B1.out) Hw'.out).mono ?_
         rintro e w2 ⟨rfl, b2⟩
         have B2 : Hid (Below w.heap.size w w2) := bthen B1.out b2
         clear b2
         go_wp2
         go_ret2
         exact tlc_of_row (ps := []) (World.ownsRow_nil _ _ _ _) B2.out)
      | (go_wp2
         go_ret2
         exact tlc_of_row (ps := []) (World.ownsRow_nil _ _ _ _) B1.out)
end Go.Proofs.Ytolbacgfcobmdaa
