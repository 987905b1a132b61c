/-
  The laws' marks on lists of fractions, and what they find of them; a list of fractions of one's own.
-/
import Derived.Test.YtdbcblfinflieaaFractionS
namespace Go.Proofs.Ytdbcblfinflieaa
open Go.RowKit Go.ChangeShapes Go.WideShapes Go.Deep
set_option linter.unusedVariables false
set_option linter.unusedSimpArgs false
theorem thereF {w : World} {b n k : Nat} (h : w.there b 0 (n * 2)) (hk : k < n) : w.there b (k * 2) 2 := fun j hj => by
  have := h (k * 2 + j) (by omega)
  rwa [Nat.zero_add] at this
/-- What the mark leaves on n fractions. -/
def MkF (w : World) (A : Option Addr) (n : Nat) : Prop := 0 < n → ∃ b, A = some ⟨b, 0, none⟩ ∧ b < w.heap.size ∧ ∀ i : Nat, i < n → w.rangeAt b (i * 2) [.int .i64 (1 + 2 * i), .int .i64 (1 + 2 * i + 1)]
theorem MkF.keep {w w' : World} {A : Option Addr} {n : Nat} (h : MkF w A n) (hb : Below w.heap.size w w') : MkF w' A n := fun h0 => by
  obtain ⟨b, e, hlt, hc⟩ := h h0
  exact ⟨b, e, Nat.lt_of_lt_of_le hlt hb.size, fun i hi => rangeAt_of_block (hc i hi) (hb.block b hlt)⟩
set_option maxRecDepth 100000 in
theorem markFrR_any (A : Option Addr) (n c : Nat) (w : World) (hn : n ≤ 40) (hth : 0 < n → ∃ b, A = some ⟨b, 0, none⟩ ∧ b < w.heap.size ∧ w.there b 0 (n * 2)) :
    Calls Try.prog 16 #[.slice A n c, .int .i64 1] w fun e w' => e = .returned (.int .i64 (1 + 2 * n)) ∧ MB A w w' ∧ MkF w' A n := by
  have Hth := Lib.hid hth; clear hth
  go_enter Try.func16, Try.ntmps16
  go_wp2
  go_loopw [1, 5] (fun q i wr => ∃ k : Nat, k ≤ n ∧ q = .int .i64 (1 + 2 * k) ∧ i = .int .i64 k ∧ MB A w wr ∧ (0 < n → ∃ b, A = some ⟨b, 0, none⟩ ∧ wr.there b 0 (n * 2)) ∧ MkF wr A k) (fun _ i _ => n - (intOf i).toNat)
  case atStart =>
    refine ⟨0, Nat.zero_le _, by simp, rfl, MB.refl _ _, fun h0 => ?_, fun h => absurd h (by omega)⟩
    obtain ⟨b, e, _, h⟩ := Hth.out h0
    exact ⟨b, e, h⟩
  case round =>
    obtain ⟨k, hkn, rfl, rfl, hm, hth2, hmk⟩ := hrel
    have Hm := Lib.hid hm; clear hm
    have Ht := Lib.hid hth2; clear hth2
    have Hk := Lib.hid hmk; clear hmk
    by_cases hlt : k < n
    · obtain ⟨b, rfl, ht⟩ := Ht.out (by omega)
      obtain ⟨b', e', hbl, _⟩ := Hth.out (by omega)
      cases e'
      obtain ⟨e0, z0⟩ := ht (k * 2) (by omega)
      obtain ⟨e1, z1⟩ := ht (k * 2 + 1) (by omega)
      rw [Nat.zero_add] at e0 z0 e1 z1
      obtain ⟨v0, c0⟩ := Option.isSome_iff_exists.1 e0
      obtain ⟨v1, c1⟩ := Option.isSome_iff_exists.1 e1
      clear e0 e1
      have HT := Lib.hid ht; clear ht
      go_wp2
      clear c0 c1 z0 z1
      go_roundw
      case rel =>
        refine ⟨k + 1, by omega, by go_num, by go_num, (Hm.out.set (k * 2) [_]).set (k * 2 + 1) [_], fun _ => ⟨b, rfl, World.there_setCells (World.there_setCells HT.out b (k * 2) [_]) b (k * 2 + 1) [_]⟩, fun _ => ⟨b, rfl, ?_, fun i hi => ?_⟩⟩
        · have h1 := Hm.out.1
          simpa [World.setCell, World.setCells, h1] using hbl
        · rcases (by omega : i < k ∨ i = k) with h | rfl
          · obtain ⟨b2, e2, _, h2⟩ := Hk.out (by omega)
            cases e2
            exact World.rangeAt_setCells_apart (h2 i h) b (k * 2) [_, _] (Or.inr (Or.inl (by simp; omega)))
          · exact World.rangeAt_setCells_same _ b (i * 2) [_, _] (thereF HT.out hlt)
      case measure => simp [intOf]; omega
    · have hkn' : k = n := by omega
      subst hkn'
      go_wp2
      go_ret
      exact ⟨rfl, Hm.out, Hk.out⟩
set_option maxRecDepth 100000 in
theorem heldFrR_any (A : Option Addr) (n c : Nat) (w : World) (hn : n ≤ 40) (hmk : MkF w A n) :
    Calls Try.prog 17 #[.slice A n c, .int .i64 1] w fun e w' => e = .returned (.int .i64 (1 + 2 * n)) ∧ Below w.heap.size w w' := by
  have Hk := Lib.hid hmk; clear hmk
  go_enter Try.func17, Try.ntmps17
  go_wp2
  go_loopw [1, 5] (fun q i wr => ∃ k : Nat, k ≤ n ∧ q = .int .i64 (1 + 2 * k) ∧ i = .int .i64 k ∧ Below w.heap.size w wr) (fun _ i _ => n - (intOf i).toNat)
  case atStart => exact ⟨0, Nat.zero_le _, by simp, rfl, Below.refl _ _⟩
  case round =>
    obtain ⟨k, hkn, rfl, rfl, hb⟩ := hrel
    have Hb := Lib.hid hb; clear hb
    by_cases hlt : k < n
    · obtain ⟨b, rfl, hbl, hcs⟩ := Hk.out (by omega)
      have hr := rangeAt_of_block (hcs k hlt) (Hb.out.block b hbl)
      have c0 : wr.cell? ⟨b, k * 2, none⟩ = some (.int .i64 (1 + 2 * (k : Int))) := hr 0 _ rfl
      have c1 : wr.cell? ⟨b, k * 2 + 1, none⟩ = some (.int .i64 (1 + 2 * (k : Int) + 1)) := hr 1 _ rfl
      clear hcs hr
      go_wp2
      go_roundw
      case rel => exact ⟨k + 1, by omega, by go_num, by go_num, Hb.out⟩
      case measure => simp [intOf]; omega
    · have hkn' : k = n := by omega
      subst hkn'
      go_wp2
      go_ret
      exact ⟨rfl, Hb.out⟩
/-- The cells of a list of fractions. -/
def cellsF (ps : List Fr) : List Value := (ps.map Fr.cells).flatten
theorem cellsF_len (ps : List Fr) : (cellsF ps).length = ps.length * 2 := by
  unfold cellsF
  induction ps with
  | nil => rfl
  | cons p l ih => simp only [List.map_cons, List.flatten_cons, List.length_append, List.length_cons] at ih ⊢; rw [ih]; simp [Fr.cells]; omega
theorem cellsF_at : ∀ (ps : List Fr) (i : Nat) (p : Fr), ps[i]? = some p → ∀ j u, p.cells[j]? = some u → (cellsF ps)[i * 2 + j]? = some u
  | [], i, p, h => by simp at h
  | x :: l, 0, p, h => fun j u hu => by
    simp at h
    subst h
    have hj : j < x.cells.length := (List.getElem?_eq_some_iff.1 hu).1
    show (x.cells ++ cellsF l)[0 * 2 + j]? = some u
    rw [List.getElem?_append_left (by omega)]
    simpa using hu
  | x :: l, i + 1, p, h => fun j u hu => by
    have h' : l[i]? = some p := by simpa using h
    have := cellsF_at l i p h' j u hu
    show (x.cells ++ cellsF l)[(i + 1) * 2 + j]? = some u
    have hx : x.cells.length = 2 := rfl
    rw [List.getElem?_append_right (by omega)]
    rw [show (i + 1) * 2 + j - x.cells.length = i * 2 + j by omega]
    exact this
theorem cellsF_snoc (ps : List Fr) (p : Fr) : cellsF (ps ++ [p]) = cellsF ps ++ p.cells := by simp [cellsF]
theorem own_noneF (w : World) (base : Nat) : w.ownsRow base 30 2 (.slice none 0 0) 0 [] := ⟨by simp, Or.inl ⟨rfl, rfl⟩⟩
theorem fr_of_row {w : World} {base n : Nat} {v : Value} {ps : List Fr} (h : w.ownsRow base 30 2 v n (cellsF ps)) : ∃ A c, v = .slice A n c ∧ ps.length = n ∧ Fr.L w w.heap.size A ps ∧ (∀ a, A = some a → base ≤ a.block ∧ a.block < w.heap.size) ∧ (0 < n → ∃ g, A = some ⟨g, 0, none⟩ ∧ w.there g 0 (n * 2)) := by
  obtain ⟨h1, h2⟩ := h
  rw [cellsF_len] at h1
  have h1 : ps.length = n := by omega
  rcases h2 with ⟨rfl, h0⟩ | ⟨g, cap, cur, rfl, hg, hh, hnc, hcap, hcs, ht⟩
  · subst h0
    exact ⟨none, 0, rfl, h1, fun h => absurd h (by omega), fun a h => by (cases h), fun h => absurd h (by omega)⟩
  · have hlt : g < w.heap.size := by
      rcases Nat.lt_or_ge g w.heap.size with hlt | hge
      · exact hlt
      · rw [Array.getElem?_eq_none hge] at hh; cases hh
    have hcell : ∀ k u, (cellsF ps)[k]? = some u → w.cell? ⟨g, k, none⟩ = some u := fun k u hu => by
      rw [cell_of_row _ _ k _ _ _ hh]
      have hj : k < n * 2 := by rw [← h1, ← cellsF_len]; exact (List.getElem?_eq_some_iff.1 hu).1
      have e1 := congrArg (fun l => l[k]?) ht
      simp only [List.getElem?_take, hu] at e1
      rw [if_pos hj] at e1
      simpa using e1
    refine ⟨_, cap, rfl, h1, fun _ => ⟨g, 0, rfl, hlt, fun i p hp j u hu => ?_⟩, fun a h => (by cases h; exact ⟨hg, hlt⟩), fun _ => ⟨g, rfl, fun j hj => ?_⟩⟩
    · rw [Nat.zero_add]
      exact hcell _ _ (cellsF_at ps i p hp j u hu)
    · rw [Nat.zero_add]
      obtain ⟨u, hu⟩ : ∃ u, (cellsF ps)[j]? = some u := ⟨_, List.getElem?_eq_getElem (by rw [cellsF_len, h1]; exact hj)⟩
      refine ⟨by rw [hcell j u hu]; rfl, ?_⟩
      unfold World.frozen?
      rw [hh]
      simp
/-- The call returns a list of fractions of its own, and a code. -/
def RFr (ps : List Fr) (k : Int) (w : World) (e : Ending) (w' : World) : Prop := ∃ v, e = .returned (.tuple #[v, .int .i64 k]) ∧ w'.ownsRow w.heap.size 30 2 v ps.length (cellsF ps) ∧ Below w.heap.size w w'
theorem RFr.facts {ps : List Fr} {k : Int} {w w' : World} {e : Ending} (h : RFr ps k w e w') : ∃ A c, e = .returned (.tuple #[.slice A ps.length c, .int .i64 k]) ∧ Fr.L w' w'.heap.size A ps ∧ (∀ a, A = some a → w.heap.size ≤ a.block ∧ a.block < w'.heap.size) ∧ (0 < ps.length → ∃ g, A = some ⟨g, 0, none⟩ ∧ w'.there g 0 (ps.length * 2)) ∧ Below w.heap.size w w' := by
  obtain ⟨v, rfl, ho, hb⟩ := h
  obtain ⟨A, c, rfl, _, h1, h2, h3⟩ := fr_of_row ho
  exact ⟨A, c, rfl, h1, h2, h3, hb⟩
theorem infoFr : (Try.prog.info? 30).map (fun i => (i.zero, i.size, i.bytes)) = some (some (.agg #[.int .i64 0, .int .i64 0]), 2, 16) := by kernel_rfl
end Go.Proofs.Ytdbcblfinflieaa
