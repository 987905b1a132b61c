/-
  A line of discs drawn from the source.
-/
import Derived.Test.YtaodpopghacmaaaDoorSrd
import Derived.Test.YtaodpopghacmaaaDoorLna

namespace Go.Proofs.YtaodpopghacmaaaDoor
open Go.RowKit Go.ChangeShapes Go.WideShapes Go.Deep Go.Joins
attribute [local go_sem ↓] Go.wp_at_zero Go.wp_at_succ
set_option linter.unusedVariables false
set_option linter.unusedSimpArgs false
set_option maxRecDepth 100000
/-- The cells of a list of discs. -/
def cellsD (ps : List Dc) : List Value := (ps.map Dc.cells).flatten
theorem cellsD_len (ps : List Dc) : (cellsD ps).length = ps.length * 2 := by
  unfold cellsD
  induction ps with
  | nil => rfl
  | cons p l ih => simp only [List.map_cons, List.flatten_cons, List.length_append, List.length_cons] at ih ⊢; rw [ih]; simp [Dc.cells]; omega
theorem cellsD_at : ∀ (ps : List Dc) (i : Nat) (p : Dc), ps[i]? = some p → ∀ j u, p.cells[j]? = some u → (cellsD ps)[i * 2 + j]? = some u
  | [], i, p, h => by simp at h
  | x :: l, 0, p, h => fun j u hu => by
    simp at h
    subst h
    have hj : j < x.cells.length := (List.getElem?_eq_some_iff.1 hu).1
    show (x.cells ++ cellsD l)[0 * 2 + j]? = some u
    rw [List.getElem?_append_left (by omega)]
    simpa using hu
  | x :: l, i + 1, p, h => fun j u hu => by
    have h' : l[i]? = some p := by simpa using h
    have := cellsD_at l i p h' j u hu
    show (x.cells ++ cellsD l)[(i + 1) * 2 + j]? = some u
    have hx : x.cells.length = 2 := rfl
    rw [List.getElem?_append_right (by omega)]
    rw [show (i + 1) * 2 + j - x.cells.length = i * 2 + j by omega]
    exact this
theorem cellsD_snoc (ps : List Dc) (p : Dc) : cellsD (ps ++ [p]) = cellsD ps ++ p.cells := by simp [cellsD]
theorem own_noneD (w : World) (base : Nat) : w.ownsRow base 54 2 (.slice none 0 0) 0 [] := ⟨by simp, Or.inl ⟨rfl, rfl⟩⟩
theorem dc_of_row {w : World} {base n : Nat} {v : Value} {ps : List Dc} (h : w.ownsRow base 54 2 v n (cellsD ps)) : ∃ A c, v = .slice A n c ∧ ps.length = n ∧ Dc.L w w.heap.size A ps ∧ (∀ a, A = some a → base ≤ a.block ∧ a.block < w.heap.size) ∧ (0 < n → ∃ g, A = some ⟨g, 0, none⟩ ∧ w.there g 0 (n * 2)) := by
  obtain ⟨h1, h2⟩ := h
  rw [cellsD_len] at h1
  have h1 : ps.length = n := by omega
  rcases h2 with ⟨rfl, h0⟩ | ⟨g, cap, cur, rfl, hg, hh, hnc, hcap, hcs, ht⟩
  · subst h0
    exact ⟨none, 0, rfl, h1, fun h => absurd h (by omega), fun a h => by (cases h), fun h => absurd h (by omega)⟩
  · have hlt : g < w.heap.size := by
      rcases Nat.lt_or_ge g w.heap.size with hlt | hge
      · exact hlt
      · rw [Array.getElem?_eq_none hge] at hh; cases hh
    have hcell : ∀ k u, (cellsD ps)[k]? = some u → w.cell? ⟨g, k, none⟩ = some u := fun k u hu => by
      rw [cell_of_row _ _ k _ _ _ hh]
      have hj : k < n * 2 := by rw [← h1, ← cellsD_len]; exact (List.getElem?_eq_some_iff.1 hu).1
      have e1 := congrArg (fun l => l[k]?) ht
      simp only [List.getElem?_take, hu] at e1
      rw [if_pos hj] at e1
      simpa using e1
    refine ⟨_, cap, rfl, h1, fun _ => ⟨g, 0, rfl, hlt, fun i p hp j u hu => ?_⟩, fun a h => (by cases h; exact ⟨hg, hlt⟩), fun _ => ⟨g, rfl, fun j hj => ?_⟩⟩
    · rw [Nat.zero_add]
      exact hcell _ _ (cellsD_at ps i p hp j u hu)
    · rw [Nat.zero_add]
      obtain ⟨u, hu⟩ : ∃ u, (cellsD ps)[j]? = some u := ⟨_, List.getElem?_eq_getElem (by rw [cellsD_len, h1]; exact hj)⟩
      refine ⟨by rw [hcell j u hu]; rfl, ?_⟩
      unfold World.frozen?
      rw [hh]
      simp
theorem own_kp {q base : Nat} {w w' : World} {e : TypeId} {size : Nat} {v : Value} {n : Nat} {xs : List Value} (h : w.ownsRow base e size v n xs) (k : Kp q w w') (hq : q < base) : w'.ownsRow base e size v n xs := by
  have hlt := own_base h
  rcases h with ⟨h1, h2 | ⟨g, cap, cur, rfl, h3, h4, rest⟩⟩
  · exact ⟨h1, .inl h2⟩
  · exact ⟨h1, .inr ⟨g, cap, cur, rfl, h3, (k.2.2 g (hlt g rfl).2 (by omega)).trans h4, rest⟩⟩
theorem Blk.kp {q b : Nat} {w w' : World} {cs : Array Value} {t : TypeId} (h : Blk w b cs t) (k : Kp q w w') (hq : b ≠ q) : Blk w' b cs t := (k.2.2 b (Blk.lt h) hq).trans h
theorem Src.lt {w : World} {q B : Nat} {A : Option Addr} {n c p : Nat} {zs : List Int} (h : Src w q B A n c p zs) : q < w.heap.size := by
  obtain ⟨sd, k, _⟩ := h
  exact Blk.lt k
theorem Src.on {w w' : World} {q B : Nat} {A : Option Addr} {n c p : Nat} {zs : List Int} (h : Src w q B A n c p zs) (b : Below w.heap.size w w') : Src w' q B A n c p zs := by
  obtain ⟨sd, k, hb, hl, hB, r⟩ := h
  have hlt := Blk.lt k
  exact ⟨sd, (b.block q hlt).trans k, hb.below b (by omega), hl, hB, r⟩
theorem Src.kp {w w' : World} {q B : Nat} {A : Option Addr} {n c p : Nat} {zs : List Int} (h : Src w q B A n c p zs) (b : Below (q + 1) w w') : Src w' q B A n c p zs := by
  obtain ⟨sd, k, hb, hl, hB, r⟩ := h
  exact ⟨sd, (b.block q (by omega)).trans k, hb.below b (by omega), hl, hB, r⟩
def okI (op : Nat) (x y : Int) : Bool := match floatBits .quo .f32 (floatOfInt .f32 (1 + x)) (floatOfInt .f32 y) with | some r => oGe r 1015021568 && oLe r (if op = 0 then 1149239296 else 1233125376) && decide (r < 4294967296) | none => false
theorem i_all : ((List.range 20).all fun a => okI 0 a 1 && okI 0 a 3 && okI 0 a 4) = true := by decide +kernel
theorem s_all : ((List.range 200).all fun a => okI 1 a 1 && okI 1 a 3 && okI 1 a 8) = true := by decide +kernel
theorem ok_some {op : Nat} {x y : Int} (h : okI op x y = true) : ∃ r, floatBits .quo .f32 (floatOfInt .f32 (1 + x)) (floatOfInt .f32 y) = some r ∧ oGe r 1015021568 = true ∧ oLe r (if op = 0 then 1149239296 else 1233125376) = true ∧ r < 4294967296 := by
  unfold okI at h
  split at h
  case h_1 r hr => simp only [Bool.and_eq_true, decide_eq_true_eq] at h; exact ⟨r, hr, h.1.1, h.1.2, h.2⟩
  case h_2 => cases h
theorem iner {x y : Int} (h0 : 0 ≤ x) (h1 : x < 20 ∨ x = 0) (hy : y ∈ [(1 : Int), 3, 4]) : ∃ r, floatBits .quo .f32 (floatOfInt .f32 (1 + x)) (floatOfInt .f32 y) = some r ∧ oGe r 1015021568 = true ∧ oLe r 1149239296 = true ∧ r < 4294967296 := by
  obtain ⟨a, rfl⟩ := Int.eq_ofNat_of_zero_le h0
  have := List.all_eq_true.1 i_all a (List.mem_range.2 (by omega))
  simp only [Bool.and_eq_true] at this
  simp at hy
  rcases hy with rfl | rfl | rfl
  · exact ok_some (op := 0) this.1.1
  · exact ok_some (op := 0) this.1.2
  · exact ok_some (op := 0) this.2
theorem stif {x y : Int} (h0 : 0 ≤ x) (h1 : x < 200 ∨ x = 0) (hy : y ∈ [(1 : Int), 3, 8]) : ∃ r, floatBits .quo .f32 (floatOfInt .f32 (1 + x)) (floatOfInt .f32 y) = some r ∧ oGe r 1015021568 = true ∧ oLe r 1233125376 = true ∧ r < 4294967296 := by
  obtain ⟨a, rfl⟩ := Int.eq_ofNat_of_zero_le h0
  have := List.all_eq_true.1 s_all a (List.mem_range.2 (by omega))
  simp only [Bool.and_eq_true] at this
  simp at hy
  rcases hy with rfl | rfl | rfl
  · exact ok_some (op := 1) this.1.1
  · exact ok_some (op := 1) this.1.2
  · exact ok_some (op := 1) this.2
end Go.Proofs.YtaodpopghacmaaaDoor
