/-
  A slice of single-precision numbers that came in: its numbers; the law's own copy of it.
-/
import Derived.Test.YtaodpopghacmaaaDoorFs2
namespace Go.Proofs.YtaodpopghacmaaaDoor
open Go.RowKit Go.ChangeShapes Go.WideShapes Go.Deep
set_option linter.unusedVariables false
set_option linter.unusedSimpArgs false
/-- The slice of address A, wherever it begins, holds the numbers fs below block B. -/
def Fo (w : World) (B : Nat) (A : Option Addr) (fs : List Nat) : Prop :=
  0 < fs.length → ∃ b off, A = some ⟨b, off, none⟩ ∧ b < B ∧ ∀ i f, fs[i]? = some f → w.cell? ⟨b, off + i, none⟩ = some (.float .f32 f)
theorem Fo.keep {w w' : World} {A : Option Addr} {fs : List Nat} (h : Fo w w.heap.size A fs) (hb : Below w.heap.size w w') : Fo w' w'.heap.size A fs := fun h0 => by
  obtain ⟨b, off, e, h1, hc⟩ := h h0
  exact ⟨b, off, e, Nat.lt_of_lt_of_le h1 hb.size, fun i f hf => (World.cell?_of_block (a := ⟨b, off + i, none⟩) (hb.block b h1)).trans (hc i f hf)⟩
def FlIn (w : World) (A : Option Addr) (n c : Nat) (fs : List Nat) : Prop := fs.length = n ∧ n ≤ c ∧ c ≤ maxLen ∧ Fo w w.heap.size A fs
/-- The copy: its block is the first free one. -/
def MadeF (w w' : World) (n : Nat) (fs : List Nat) : Prop :=
  w'.there w.heap.size 0 n ∧ (∀ i f, fs[i]? = some f → w'.cell? ⟨w.heap.size, i, none⟩ = some (.float .f32 f)) ∧ w.heap.size < w'.heap.size ∧ Below w.heap.size w w'
theorem MadeF.fl {w w' : World} {n : Nat} {fs : List Nat} (h : MadeF w w' n fs) : Fl w' w.heap.size w'.heap.size (some ⟨w.heap.size, 0, none⟩) fs := fun _ => ⟨_, rfl, Nat.le_refl _, h.2.2.1, h.2.1⟩
section
variable {H : Type} {enc : TypeId × Value → H} {w : World} {base : Nat} {spare : Nat → Bool} {held : Bool}
theorem floats_in {A : Option Addr} {n c : Nat} {d : DataW H} {p : List MemPlace} (lt : ∀ x ∈ p, x.block < w.heap.size) (h : DataW.Trod enc Tryd.prog w 0 (fun _ => true) true 28 (.slice A n c) d p) : ∃ fs, FlIn w A n c fs := by
  obtain ⟨fuel, hf⟩ := h
  rcases open_slice Tryd.underlying28 hf with ⟨hcs, _⟩ | ⟨a, len, cap, m, k, D, Pl, hcs, _, hl, hm, hmm, hx, hi⟩
  · simp [Value.cells] at hcs
    obtain ⟨rfl, rfl, rfl⟩ := hcs
    exact ⟨[], rfl, Nat.le_refl _, Nat.zero_le _, fun h => absurd h (by simp)⟩
  · simp [Value.cells] at hcs
    obtain ⟨rfl, rfl, rfl⟩ := hcs
    have hC : Tryd.prog.cellsOf 26 = 1 := by kernel_rfl
    rw [hC] at hi hx
    have hmn : n ≤ m := by rw [hmm]; simpa using hl
    obtain ⟨V, hV⟩ := choose_lt (α := Nat) (n := n) (p := fun i f => w.cell? (a.add i) = some (.float .f32 f)) (fun i hin => by
      obtain ⟨cs', h1, h2⟩ := hi i (by omega)
      obtain ⟨q, rfl, hq⟩ := trod_f32x Tryd.underlying26 h2
      obtain ⟨_, h3, h4⟩ := World.cells?_some h1
      refine ⟨q, ?_⟩
      have := h4 0 (by omega)
      simpa [Addr.add] using this)
    refine ⟨(List.range n).map V, by simp, hl, hm, ?_⟩
    intro h0
    have hn : 0 < n := by simpa using h0
    obtain ⟨b, off, spot⟩ := a
    have hc0 := hV 0 hn
    have hc0' : w.cell? ⟨b, off, spot⟩ = some (.float .f32 (V 0)) := by simpa [Addr.add] using hc0
    have hspot : spot = none := by simpa using World.cell?_spot hc0'
    subst hspot
    refine ⟨b, off, rfl, block_lt_of_cell hc0', ?_⟩
    intro i q hq
    obtain ⟨hil, e⟩ := List.getElem?_eq_some_iff.1 hq
    simp at hil e
    subst e
    have := hV i hil
    rwa [Addr.add_mid] at this
end
end Go.Proofs.YtaodpopghacmaaaDoor
