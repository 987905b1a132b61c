/-
  The laws' marks on lists of pairs of whole numbers, and what they find of them; such a list of one's own.
-/
import Derived.Test.YtaodpopghacmaaaIpS
namespace Go.Proofs.Ytaodpopghacmaaa
open Go.RowKit Go.ChangeShapes Go.WideShapes Go.Deep
set_option linter.unusedVariables false
set_option linter.unusedSimpArgs false
/-- What the mark leaves. -/
def MkI (w : World) (A : Option Addr) (n : Nat) : Prop := 0 < n → ∃ b, A = some ⟨b, 0, none⟩ ∧ b < w.heap.size ∧ ∀ m : Nat, m < n * 2 → w.cell? ⟨b, m, none⟩ = some (.int .i64 (1 + m))
theorem MkI.keep {w w' : World} {A : Option Addr} {n : Nat} (h : MkI w A n) (hb : Below w.heap.size w w') : MkI w' A n := fun h0 => by
  obtain ⟨b, e, hlt, hc⟩ := h h0
  exact ⟨b, e, Nat.lt_of_lt_of_le hlt hb.size, fun m hm => (World.cell?_of_block (a := ⟨b, m, none⟩) (hb.block b hlt)).trans (hc m hm)⟩
set_option maxRecDepth 100000 in
set_option maxHeartbeats 2000000 in
theorem markIp_any (A : Option Addr) (n c : Nat) (w : World) (hn : n ≤ 1000) (hth : 0 < n → ∃ b, A = some ⟨b, 0, none⟩ ∧ b < w.heap.size ∧ w.there b 0 (n * 2)) :
    Calls Try.prog 17 #[.slice A n c, .int .i64 1] w fun e w' => e = .returned (.int .i64 (1 + 2 * n)) ∧ MB A w w' ∧ MkI w' A n := by
  have Hth := Lib.hid hth; clear hth
  go_enter Try.func17, Try.ntmps17
  go_wp2
  go_loopw [1, 5, 6] (fun q i _ wr => ∃ k : Nat, k ≤ n ∧ q = .int .i64 (1 + 2 * k) ∧ i = .int .i64 k ∧ Hid (MB A w wr) ∧ Hid (0 < n → ∃ b, A = some ⟨b, 0, none⟩ ∧ wr.there b 0 (n * 2) ∧ ∀ m : Nat, m < k * 2 → wr.cell? ⟨b, m, none⟩ = some (.int .i64 (1 + m)))) (fun _ i _ _ => n - (intOf i).toNat)
  case atStart =>
    refine ⟨0, Nat.zero_le _, by simp, rfl, MB.refl _ _, fun h0 => ?_⟩
    obtain ⟨b, e, _, h⟩ := Hth.out h0
    exact ⟨b, e, h, fun m hm => absurd hm (by omega)⟩
  case round =>
    obtain ⟨k, hkn, rfl, rfl, hm, ht⟩ := hrel
    by_cases hlt : k < n
    · obtain ⟨b, rfl, hth, hcs⟩ := ht.out (by omega)
      have H0 := Lib.hid hth
      have HC0 := Lib.hid hcs
      clear hth hcs ht
      go_wp2_with fail
      go_loopw [1, 6] (fun q j wr2 => ∃ j' : Nat, j' ≤ 2 ∧ q = .int .i64 (1 + 2 * k + j') ∧ j = .int .i64 j' ∧ Hid (MB (some ⟨b, 0, none⟩) w wr2) ∧ Hid (wr2.there b 0 (n * 2)) ∧ Hid (∀ m : Nat, m < k * 2 + j' → wr2.cell? ⟨b, m, none⟩ = some (.int .i64 (1 + m)))) (fun _ j _ => 2 - (intOf j).toNat)
      case atStart => exact ⟨0, by omega, by simp, rfl, hm, H0, HC0⟩
      case round =>
        obtain ⟨j', hj, rfl, rfl, hm2, ht2, hc2⟩ := hrel
        by_cases hjl : j' < 2
        · obtain ⟨e0, z0⟩ := ht2.out (k * 2 + j') (by omega)
          rw [Nat.zero_add] at e0 z0
          obtain ⟨v0, c0⟩ := Option.isSome_iff_exists.1 e0
          clear e0
          have y0 : (0 : Int) ≤ (j' : Int) := by omega
          have y1 : (j' : Int) < (2 : Int) := by omega
          go_wp2
          clear c0 z0
          refine ⟨⟨j' + 1, by omega, by go_num, by go_num, hm2.out.set (k * 2 + j') [_], World.there_setCells ht2.out b (k * 2 + j') [_], Lib.hid fun m hm => ?_⟩, by simp [intOf]; omega⟩
          rcases (by omega : m < k * 2 + j' ∨ m = k * 2 + j') with h | rfl
          · exact World.rangeAt_setCells_apart (cs := [.int .i64 (1 + m)]) (o' := m) (fun j v hj => by cases j with | zero => (simp at hj; subst hj; exact hc2.out m h) | succ j => simp at hj) b (k * 2 + j') [_] (Or.inr (Or.inl (by simp; omega))) 0 _ rfl
          · have h9 := World.rangeAt_setCells_same _ b (k * 2 + j') [.int .i64 (1 + 2 * (k : Int) + (j' : Int))] (fun i hi => by have := ht2.out (k * 2 + j' + i) (by simp at hi; omega); rwa [Nat.zero_add] at this) 0 _ rfl
            refine Eq.trans h9 ?_
            congr 2
            omega
        · obtain rfl : j' = 2 := by omega
          go_wp2
          exact ⟨⟨k + 1, by omega, by go_num, by go_num, hm2, Lib.hid fun _ => ⟨b, rfl, ht2.out, fun m hm => hc2.out m (by omega)⟩⟩, by simp [intOf]; omega⟩
    · obtain rfl : k = n := by omega
      go_wp2
      go_ret
      refine ⟨rfl, hm.out, fun h0 => ?_⟩
      obtain ⟨b, e, _, h⟩ := ht.out h0
      obtain ⟨b', e', hbl, _⟩ := Hth.out h0
      subst e
      cases e'
      exact ⟨b, rfl, by rw [hm.out.1]; exact hbl, h⟩
set_option maxRecDepth 100000 in
set_option maxHeartbeats 2000000 in
theorem heldIp_any (A : Option Addr) (n c : Nat) (w : World) (hn : n ≤ 1000) (hmk : MkI w A n) :
    Calls Try.prog 18 #[.slice A n c, .int .i64 1] w fun e w' => e = .returned (.int .i64 (1 + 2 * n)) ∧ Below w.heap.size w w' := by
  have Hk := Lib.hid hmk; clear hmk
  go_enter Try.func18, Try.ntmps18
  go_wp2
  go_loopw [1, 5, 6] (fun q i _ wr => ∃ k : Nat, k ≤ n ∧ q = .int .i64 (1 + 2 * k) ∧ i = .int .i64 k ∧ w = wr) (fun _ i _ _ => n - (intOf i).toNat)
  case atStart => exact ⟨0, Nat.zero_le _, by simp, rfl, rfl⟩
  case round =>
    obtain ⟨k, hkn, rfl, rfl, rfl⟩ := hrel
    by_cases hlt : k < n
    · obtain ⟨b, rfl, hbl, hcs⟩ := Hk.out (by omega)
      have HC := Lib.hid hcs
      clear hcs
      go_wp2_with fail
      go_loopw [1, 6] (fun q j wr2 => ∃ j' : Nat, j' ≤ 2 ∧ q = .int .i64 (1 + 2 * k + j') ∧ j = .int .i64 j' ∧ w = wr2) (fun _ j _ => 2 - (intOf j).toNat)
      case atStart => exact ⟨0, by omega, by simp, rfl, rfl⟩
      case round =>
        obtain ⟨j', hj, rfl, rfl, rfl⟩ := hrel
        by_cases hjl : j' < 2
        · have c0 := HC.out (k * 2 + j') (by omega)
          rw [show (1 : Int) + ((k * 2 + j' : Nat) : Int) = 1 + 2 * (k : Int) + (j' : Int) by omega] at c0
          have y0 : (0 : Int) ≤ (j' : Int) := by omega
          have y1 : (j' : Int) < (2 : Int) := by omega
          go_wp2
          exact ⟨⟨j' + 1, by omega, by go_num, by go_num, trivial⟩, by simp [intOf]; omega⟩
        · obtain rfl : j' = 2 := by omega
          go_wp2
          exact ⟨⟨k + 1, by omega, by go_num, by go_num, trivial⟩, by simp [intOf]; omega⟩
    · obtain rfl : k = n := by omega
      go_wp2
      go_ret
      exact ⟨rfl, Below.refl _ _⟩
/-- The cells of a list of pairs. -/
def cellsI (ps : List Ip) : List Value := (ps.map Ip.cells).flatten
theorem cellsI_len (ps : List Ip) : (cellsI ps).length = ps.length * 2 := by
  unfold cellsI
  induction ps with
  | nil => rfl
  | cons p l ih => simp only [List.map_cons, List.flatten_cons, List.length_append, List.length_cons] at ih ⊢; rw [ih]; simp [Ip.cells]; omega
theorem cellsI_at : ∀ (ps : List Ip) (i : Nat) (p : Ip), ps[i]? = some p → ∀ j u, p.cells[j]? = some u → (cellsI ps)[i * 2 + j]? = some u
  | [], i, p, h => by simp at h
  | x :: l, 0, p, h => fun j u hu => by
    simp at h
    subst h
    have hj : j < x.cells.length := (List.getElem?_eq_some_iff.1 hu).1
    show (x.cells ++ cellsI l)[0 * 2 + j]? = some u
    rw [List.getElem?_append_left (by omega)]
    simpa using hu
  | x :: l, i + 1, p, h => fun j u hu => by
    have h' : l[i]? = some p := by simpa using h
    have := cellsI_at l i p h' j u hu
    show (x.cells ++ cellsI l)[(i + 1) * 2 + j]? = some u
    have hx : x.cells.length = 2 := rfl
    rw [List.getElem?_append_right (by omega)]
    rw [show (i + 1) * 2 + j - x.cells.length = i * 2 + j by omega]
    exact this
theorem cellsI_snoc (ps : List Ip) (p : Ip) : cellsI (ps ++ [p]) = cellsI ps ++ p.cells := by simp [cellsI]
theorem own_noneI (w : World) (base : Nat) : w.ownsRow base 72 2 (.slice none 0 0) 0 [] := ⟨by simp, Or.inl ⟨rfl, rfl⟩⟩
theorem ip_of_row {w : World} {base n : Nat} {v : Value} {ps : List Ip} (h : w.ownsRow base 72 2 v n (cellsI ps)) : ∃ A c, v = .slice A n c ∧ ps.length = n ∧ Ip.L w w.heap.size A ps ∧ (∀ a, A = some a → base ≤ a.block ∧ a.block < w.heap.size) ∧ (0 < n → ∃ g, A = some ⟨g, 0, none⟩ ∧ w.there g 0 (n * 2)) := by
  obtain ⟨h1, h2⟩ := h
  rw [cellsI_len] at h1
  have h1 : ps.length = n := by omega
  rcases h2 with ⟨rfl, h0⟩ | ⟨g, cap, cur, rfl, hg, hh, hnc, hcap, hcs, ht⟩
  · subst h0
    exact ⟨none, 0, rfl, h1, fun h => absurd h (by omega), fun a h => by (cases h), fun h => absurd h (by omega)⟩
  · have hlt : g < w.heap.size := by
      rcases Nat.lt_or_ge g w.heap.size with hlt | hge
      · exact hlt
      · rw [Array.getElem?_eq_none hge] at hh; cases hh
    have hcell : ∀ k u, (cellsI ps)[k]? = some u → w.cell? ⟨g, k, none⟩ = some u := fun k u hu => by
      rw [cell_of_row _ _ k _ _ _ hh]
      have hj : k < n * 2 := by rw [← h1, ← cellsI_len]; exact (List.getElem?_eq_some_iff.1 hu).1
      have e1 := congrArg (fun l => l[k]?) ht
      simp only [List.getElem?_take, hu] at e1
      rw [if_pos hj] at e1
      simpa using e1
    refine ⟨_, cap, rfl, h1, fun _ => ⟨g, 0, rfl, hlt, fun i p hp j u hu => ?_⟩, fun a h => (by cases h; exact ⟨hg, hlt⟩), fun _ => ⟨g, rfl, fun j hj => ?_⟩⟩
    · rw [Nat.zero_add]
      exact hcell _ _ (cellsI_at ps i p hp j u hu)
    · rw [Nat.zero_add]
      obtain ⟨u, hu⟩ : ∃ u, (cellsI ps)[j]? = some u := ⟨_, List.getElem?_eq_getElem (by rw [cellsI_len, h1]; exact hj)⟩
      refine ⟨by rw [hcell j u hu]; rfl, ?_⟩
      unfold World.frozen?
      rw [hh]
      simp
/-- The call returns a list of pairs of its own, and a code. -/
def RIp (ps : List Ip) (k : Int) (w : World) (e : Ending) (w' : World) : Prop := ∃ v, e = .returned (.tuple #[v, .int .i64 k]) ∧ w'.ownsRow w.heap.size 72 2 v ps.length (cellsI ps) ∧ Below w.heap.size w w'
theorem RIp.facts {ps : List Ip} {k : Int} {w w' : World} {e : Ending} (h : RIp ps k w e w') : ∃ A c, e = .returned (.tuple #[.slice A ps.length c, .int .i64 k]) ∧ Ip.L w' w'.heap.size A ps ∧ (∀ a, A = some a → w.heap.size ≤ a.block ∧ a.block < w'.heap.size) ∧ (0 < ps.length → ∃ g, A = some ⟨g, 0, none⟩ ∧ w'.there g 0 (ps.length * 2)) ∧ Below w.heap.size w w' := by
  obtain ⟨v, rfl, ho, hb⟩ := h
  obtain ⟨A, c, rfl, _, h1, h2, h3⟩ := ip_of_row ho
  exact ⟨A, c, rfl, h1, h2, h3, hb⟩
theorem infoIp : (Try.prog.info? 72).map (fun i => (i.zero, i.size, i.bytes)) = some (some (.agg #[.int .i64 0, .int .i64 0]), 2, 16) := by kernel_rfl
end Go.Proofs.Ytaodpopghacmaaa
