/-
  Bytes that come in: how they lie; the source that draws numbers out of them.
-/
import Derived.Test.YtjkgiknklkfipaaBase
import Derived.Test.YtjkgiknklkfipaaSmb
import Derived.ChangeArms
import Derived.OpenShut
import Derived.IntWalk
namespace Go.Proofs.Ytjkgiknklkfipaa
open Go.RowKit Go.ChangeShapes Go.WideShapes Go.Deep Go.Joins
attribute [local go_sem ↓] Go.wp_at_zero Go.wp_at_succ
set_option linter.unusedVariables false
set_option linter.unusedSimpArgs false
set_option maxRecDepth 100000
def U8 (z : Int) : Prop := 0 ≤ z ∧ z ≤ 255
/-- The slice of address A, wherever it begins, holds the bytes zs, below block B. -/
def By (w : World) (B : Nat) (A : Option Addr) (zs : List Int) : Prop :=
  0 < zs.length → ∃ b off, A = some ⟨b, off, none⟩ ∧ b < B ∧ ∀ i z, zs[i]? = some z → w.cell? ⟨b, off + i, none⟩ = some (.int .u8 z)
theorem By.keep {w w' : World} {A : Option Addr} {zs : List Int} (h : By w w.heap.size A zs) (hb : Below w.heap.size w w') : By w' w'.heap.size A zs := fun h0 => by
  obtain ⟨b, off, e, h1, hc⟩ := h h0
  exact ⟨b, off, e, Nat.lt_of_lt_of_le h1 hb.size, fun i z hz => (World.cell?_of_block (a := ⟨b, off + i, none⟩) (hb.block b h1)).trans (hc i z hz)⟩
theorem By.below {w w' : World} {B : Nat} {A : Option Addr} {zs : List Int} (h : By w B A zs) {B' : Nat} (hb : Below B' w w') (hB : B ≤ B') : By w' B A zs := fun h0 => by
  obtain ⟨b, off, e, h1, hc⟩ := h h0
  exact ⟨b, off, e, h1, fun i z hz => (World.cell?_of_block (a := ⟨b, off + i, none⟩) (hb.block b (Nat.lt_of_lt_of_le h1 hB))).trans (hc i z hz)⟩
def ByIn (w : World) (A : Option Addr) (n c : Nat) (zs : List Int) : Prop := zs.length = n ∧ n ≤ c ∧ c ≤ maxLen ∧ By w w.heap.size A zs ∧ ∀ z ∈ zs, U8 z
section
variable {H : Type} {enc : TypeId × Value → H} {w : World} {base : Nat} {spare : Nat → Bool} {held : Bool}
theorem trod_u8x {P : Program} {t : TypeId} {fuel : Nat} {cs : List Value} {x : DataW H × List MemPlace} (ht : P.underlying t = some (.int .u8)) (h : DataW.trod enc P w base spare held fuel t cs = some x) :
    ∃ b, cs = [.int .u8 b] ∧ U8 b := by
  obtain ⟨x0, e0, _, g0⟩ := DataW.trod_int ht h
  exact ⟨x0, e0, by simpa [U8, Lit.wf, IntKind.min, IntKind.max, IntKind.signed, IntKind.bits] using g0⟩
theorem bytes_in {A : Option Addr} {n c : Nat} {d : DataW H} {p : List MemPlace} (lt : ∀ x ∈ p, x.block < w.heap.size) (h : DataW.Trod enc Try.prog w 0 (fun _ => true) true 22 (.slice A n c) d p) : ∃ zs, ByIn w A n c zs := by
  obtain ⟨fuel, hf⟩ := h
  rcases open_slice Try.underlying22 hf with ⟨hcs, _⟩ | ⟨a, len, cap, m, k, D, Pl, hcs, _, hl, hm, hmm, hx, hi⟩
  · simp [Value.cells] at hcs
    obtain ⟨rfl, rfl, rfl⟩ := hcs
    exact ⟨[], rfl, Nat.le_refl _, Nat.zero_le _, fun h => absurd h (by simp), fun z hz => by cases hz⟩
  · simp [Value.cells] at hcs
    obtain ⟨rfl, rfl, rfl⟩ := hcs
    have hC : Try.prog.cellsOf 5 = 1 := by kernel_rfl
    rw [hC] at hi hx
    have hmn : n ≤ m := by rw [hmm]; simpa using hl
    obtain ⟨V, hV⟩ := choose_lt (α := Int) (n := n) (p := fun i f => U8 f ∧ w.cell? (a.add i) = some (.int .u8 f)) (fun i hin => by
      obtain ⟨cs', h1, h2⟩ := hi i (by omega)
      obtain ⟨q, rfl, hq⟩ := trod_u8x Try.underlying5 h2
      obtain ⟨_, h3, h4⟩ := World.cells?_some h1
      refine ⟨q, hq, ?_⟩
      have := h4 0 (by omega)
      simpa [Addr.add] using this)
    refine ⟨(List.range n).map V, by simp, hl, hm, ?_, ?_⟩
    · intro h0
      have hn : 0 < n := by simpa using h0
      obtain ⟨b, off, spot⟩ := a
      have hc0 := (hV 0 hn).2
      have hc0' : w.cell? ⟨b, off, spot⟩ = some (.int .u8 (V 0)) := by simpa [Addr.add] using hc0
      have hspot : spot = none := by simpa using World.cell?_spot hc0'
      subst hspot
      refine ⟨b, off, rfl, block_lt_of_cell hc0', ?_⟩
      intro i q hq
      obtain ⟨hil, e⟩ := List.getElem?_eq_some_iff.1 hq
      simp at hil e
      subst e
      have := (hV i hil).2
      rwa [Addr.add_mid] at this
    · intro q hq
      simp at hq
      obtain ⟨i, hin, rfl⟩ := hq
      exact (hV i hin).1
end
end Go.Proofs.Ytjkgiknklkfipaa
