/-
  The laws' marks on lists of fractions, and what they find of them; a list of fractions of one's own.
-/
import Derived.Test.YtjkgiknklkfipaaFractionS
namespace Go.Proofs.Ytjkgiknklkfipaa
open Go.RowKit Go.ChangeShapes Go.WideShapes Go.Deep
set_option linter.unusedVariables false
set_option linter.unusedSimpArgs false
theorem thereF {w : World} {b n k : Nat} (h : w.there b 0 (n * 2)) (hk : k < n) : w.there b (k * 2) 2 := fun j hj => by
  have := h (k * 2 + j) (by omega)
  rwa [Nat.zero_add] at this
/-- What the mark leaves on n fractions. -/
def MkF (w : World) (A : Option Addr) (n : Nat) : Prop := 0 < n → ∃ b, A = some ⟨b, 0, none⟩ ∧ b < w.heap.size ∧ ∀ i : Nat, i < n → w.rangeAt b (i * 2) [.int .i64 (1 + 2 * i), .int .i64 (1 + 2 * i + 1)]
theorem MkF.keep {w w' : World} {A : Option Addr} {n : Nat} (h : MkF w A n) (hb : Below w.heap.size w w') : MkF w' A n := fun h0 => by
  obtain ⟨b, e, hlt, hc⟩ := h h0
  exact ⟨b, e, Nat.lt_of_lt_of_le hlt hb.size, fun i hi => rangeAt_of_block (hc i hi) (hb.block b hlt)⟩
/-- The cells of a list of fractions. -/
def cellsF (ps : List Fr) : List Value := (ps.map Fr.cells).flatten
theorem cellsF_len (ps : List Fr) : (cellsF ps).length = ps.length * 2 := by
  unfold cellsF
  induction ps with
  | nil => rfl
  | cons p l ih => simp only [List.map_cons, List.flatten_cons, List.length_append, List.length_cons] at ih ⊢; rw [ih]; simp [Fr.cells]; omega
theorem cellsF_at : ∀ (ps : List Fr) (i : Nat) (p : Fr), ps[i]? = some p → ∀ j u, p.cells[j]? = some u → (cellsF ps)[i * 2 + j]? = some u
  | [], i, p, h => by simp at h
  | x :: l, 0, p, h => fun j u hu => by
    simp at h
    subst h
    have hj : j < x.cells.length := (List.getElem?_eq_some_iff.1 hu).1
    show (x.cells ++ cellsF l)[0 * 2 + j]? = some u
    rw [List.getElem?_append_left (by omega)]
    simpa using hu
  | x :: l, i + 1, p, h => fun j u hu => by
    have h' : l[i]? = some p := by simpa using h
    have := cellsF_at l i p h' j u hu
    show (x.cells ++ cellsF l)[(i + 1) * 2 + j]? = some u
    have hx : x.cells.length = 2 := rfl
    rw [List.getElem?_append_right (by omega)]
    rw [show (i + 1) * 2 + j - x.cells.length = i * 2 + j by omega]
    exact this
theorem cellsF_snoc (ps : List Fr) (p : Fr) : cellsF (ps ++ [p]) = cellsF ps ++ p.cells := by simp [cellsF]
theorem own_noneF (w : World) (base : Nat) : w.ownsRow base 28 2 (.slice none 0 0) 0 [] := ⟨by simp, Or.inl ⟨rfl, rfl⟩⟩
theorem fr_of_row {w : World} {base n : Nat} {v : Value} {ps : List Fr} (h : w.ownsRow base 28 2 v n (cellsF ps)) : ∃ A c, v = .slice A n c ∧ ps.length = n ∧ Fr.L w w.heap.size A ps ∧ (∀ a, A = some a → base ≤ a.block ∧ a.block < w.heap.size) ∧ (0 < n → ∃ g, A = some ⟨g, 0, none⟩ ∧ w.there g 0 (n * 2)) := by
  obtain ⟨h1, h2⟩ := h
  rw [cellsF_len] at h1
  have h1 : ps.length = n := by omega
  rcases h2 with ⟨rfl, h0⟩ | ⟨g, cap, cur, rfl, hg, hh, hnc, hcap, hcs, ht⟩
  · subst h0
    exact ⟨none, 0, rfl, h1, fun h => absurd h (by omega), fun a h => by (cases h), fun h => absurd h (by omega)⟩
  · have hlt : g < w.heap.size := by
      rcases Nat.lt_or_ge g w.heap.size with hlt | hge
      · exact hlt
      · rw [Array.getElem?_eq_none hge] at hh; cases hh
    have hcell : ∀ k u, (cellsF ps)[k]? = some u → w.cell? ⟨g, k, none⟩ = some u := fun k u hu => by
      rw [cell_of_row _ _ k _ _ _ hh]
      have hj : k < n * 2 := by rw [← h1, ← cellsF_len]; exact (List.getElem?_eq_some_iff.1 hu).1
      have e1 := congrArg (fun l => l[k]?) ht
      simp only [List.getElem?_take, hu] at e1
      rw [if_pos hj] at e1
      simpa using e1
    refine ⟨_, cap, rfl, h1, fun _ => ⟨g, 0, rfl, hlt, fun i p hp j u hu => ?_⟩, fun a h => (by cases h; exact ⟨hg, hlt⟩), fun _ => ⟨g, rfl, fun j hj => ?_⟩⟩
    · rw [Nat.zero_add]
      exact hcell _ _ (cellsF_at ps i p hp j u hu)
    · rw [Nat.zero_add]
      obtain ⟨u, hu⟩ : ∃ u, (cellsF ps)[j]? = some u := ⟨_, List.getElem?_eq_getElem (by rw [cellsF_len, h1]; exact hj)⟩
      refine ⟨by rw [hcell j u hu]; rfl, ?_⟩
      unfold World.frozen?
      rw [hh]
      simp
/-- The call returns a list of fractions of its own, and a code. -/
def RFr (ps : List Fr) (k : Int) (w : World) (e : Ending) (w' : World) : Prop := ∃ v, e = .returned (.tuple #[v, .int .i64 k]) ∧ w'.ownsRow w.heap.size 28 2 v ps.length (cellsF ps) ∧ Below w.heap.size w w'
theorem RFr.facts {ps : List Fr} {k : Int} {w w' : World} {e : Ending} (h : RFr ps k w e w') : ∃ A c, e = .returned (.tuple #[.slice A ps.length c, .int .i64 k]) ∧ Fr.L w' w'.heap.size A ps ∧ (∀ a, A = some a → w.heap.size ≤ a.block ∧ a.block < w'.heap.size) ∧ (0 < ps.length → ∃ g, A = some ⟨g, 0, none⟩ ∧ w'.there g 0 (ps.length * 2)) ∧ Below w.heap.size w w' := by
  obtain ⟨v, rfl, ho, hb⟩ := h
  obtain ⟨A, c, rfl, _, h1, h2, h3⟩ := fr_of_row ho
  exact ⟨A, c, rfl, h1, h2, h3, hb⟩
theorem infoFr : (Try.prog.info? 28).map (fun i => (i.zero, i.size, i.bytes)) = some (some (.agg #[.int .i64 0, .int .i64 0]), 2, 16) := by kernel_rfl
end Go.Proofs.Ytjkgiknklkfipaa
