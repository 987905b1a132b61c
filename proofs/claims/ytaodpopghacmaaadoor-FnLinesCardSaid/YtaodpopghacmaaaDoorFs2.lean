/-
  Slices of single-precision numbers: how they lie, and the walks of the functions of the laws that compare, mark and read them.
-/
import Derived.Test.YtaodpopghacmaaaDoorBase
import Derived.Deep.AppendLies
import Derived.Deep.MidRow
import Derived.Deep.RegionLaw
import Derived.Deep.Draws
import Derived.Deep.QuietTactic
import Derived.BigQuiet
namespace Go.Proofs.YtaodpopghacmaaaDoor
open Go.RowKit Go.ChangeShapes Go.WideShapes Go.Deep
set_option linter.unusedVariables false
set_option linter.unusedSimpArgs false
/-- The slice of address A holds the numbers fs; where there is one, it lies from block B0 on, below block B. -/
def Fl (w : World) (B0 B : Nat) (A : Option Addr) (fs : List Nat) : Prop :=
  0 < fs.length → ∃ b, A = some ⟨b, 0, none⟩ ∧ B0 ≤ b ∧ b < B ∧ ∀ i f, fs[i]? = some f → w.cell? ⟨b, i, none⟩ = some (.float .f32 f)
theorem Fl.below {w w' : World} {B0 B : Nat} {A : Option Addr} {fs : List Nat} (h : Fl w B0 B A fs) {B' : Nat} (hb : Below B' w w') (hB : B ≤ B') : Fl w' B0 B A fs := fun h0 => by
  obtain ⟨b, e, h1, h2, hc⟩ := h h0
  exact ⟨b, e, h1, h2, fun i f hf => (World.cell?_of_block (a := ⟨b, i, none⟩) (hb.block b (Nat.lt_of_lt_of_le h2 hB))).trans (hc i f hf)⟩
theorem Fl.more {w : World} {B0 B B' : Nat} {A : Option Addr} {fs : List Nat} (h : Fl w B0 B A fs) (hB : B ≤ B') : Fl w B0 B' A fs := fun h0 => by
  obtain ⟨b, e, h1, h2, hc⟩ := h h0
  exact ⟨b, e, h1, Nat.lt_of_lt_of_le h2 hB, hc⟩
theorem Fl.mb {w w' : World} {B0 B : Nat} {A A' : Option Addr} {fs : List Nat} (h : Fl w B0 B A fs) (hm : MB A' w w') (hd : ∀ a, A' = some a → a.block < B0 ∨ B ≤ a.block) : Fl w' B0 B A fs := fun h0 => by
  obtain ⟨b, e, h1, h2, hc⟩ := h h0
  exact ⟨b, e, h1, h2, fun i f hf => (World.cell?_of_block (a := ⟨b, i, none⟩) (hm.2.1 b (fun a ha => by have := hd a ha; omega))).trans (hc i f hf)⟩
/-- The call returns a slice of numbers, known up to which NaN they are, and a code; the slice is the call's own and may be written. -/
def FLC (cs : List Nat) (k : Int) (w : World) (e : Ending) (w' : World) : Prop :=
  ∃ A n c fs, e = .returned (.tuple #[.slice A n c, .int .i64 k]) ∧ fs.length = n ∧ fs.map cn = cs ∧ Fl w' w.heap.size w'.heap.size A fs ∧ (0 < n → ∃ b, A = some ⟨b, 0, none⟩ ∧ w'.there b 0 n) ∧ (∀ a, A = some a → w.heap.size ≤ a.block ∧ a.block < w'.heap.size) ∧ Below w.heap.size w w'
theorem flc_of_row {w w' : World} {v : Value} {n : Nat} {fs : List Nat} {k : Int} (h : w'.ownsRow w.heap.size 26 1 v n (fs.map (Value.float .f32))) (hb : Below w.heap.size w w') : FLC (fs.map cn) k w (.returned (.tuple #[v, .int .i64 k])) w' := by
  obtain ⟨h1, h2⟩ := h
  simp at h1
  rcases h2 with ⟨rfl, h0⟩ | ⟨g, cap, cur, rfl, hg, hh, hnc, hcap, hcs, ht⟩
  · exact ⟨none, 0, 0, fs, rfl, by omega, rfl, fun h => absurd h (by omega), fun h => absurd h (by omega), fun a h => (by cases h), hb⟩
  · have hlt : g < w'.heap.size := by
      rcases Nat.lt_or_ge g w'.heap.size with hlt | hge
      · exact hlt
      · rw [Array.getElem?_eq_none hge] at hh; cases hh
    refine ⟨some ⟨g, 0, none⟩, n, cap, fs, rfl, h1, rfl, fun _ => ⟨g, rfl, hg, hlt, fun i f hf => ?_⟩, fun _ => ⟨g, rfl, fun j hj => ?_⟩, fun a h => (by cases h; exact ⟨hg, hlt⟩), hb⟩
    · rw [cell_of_row _ _ i _ _ _ hh]
      have hi : i < n := by rw [← h1]; exact (List.getElem?_eq_some_iff.1 hf).1
      have e1 := congrArg (fun l => l[i]?) ht
      simp only [List.getElem?_take, List.getElem?_map, hf, Option.map_some] at e1
      rw [if_pos (by omega)] at e1
      simpa using e1
    · rw [Nat.zero_add]
      refine ⟨?_, ?_⟩
      · rw [cell_of_row _ _ j _ _ _ hh]
        simp
        omega
      · unfold World.frozen?
        rw [hh]
        simp
theorem infoF32 : (Tryd.prog.info? 26).map (fun i => (i.zero, i.size, i.bytes)) = some (some (.float .f32 0), 1, 4) := by kernel_rfl
theorem Fl.weak {w : World} {B0 B : Nat} {A : Option Addr} {fs : List Nat} (h : Fl w B0 B A fs) : Fl w 0 B A fs := fun h0 => by
  obtain ⟨b, e, _, h2, hc⟩ := h h0
  exact ⟨b, e, Nat.zero_le _, h2, hc⟩
theorem Fl.keep {w w' : World} {A : Option Addr} {fs : List Nat} (h : Fl w 0 w.heap.size A fs) (hb : Below w.heap.size w w') : Fl w' 0 w'.heap.size A fs := (h.below hb (Nat.le_refl _)).more hb.size
theorem Fl.mb0 {w w' : World} {A A' : Option Addr} {fs : List Nat} (h : Fl w 0 w.heap.size A fs) (hm : MB A' w w') (hd : ∀ a a', A = some a → A' = some a' → a'.block ≠ a.block) : Fl w' 0 w'.heap.size A fs := fun h0 => by
  obtain ⟨b, e, _, hlt, hc⟩ := h h0
  exact ⟨b, e, Nat.zero_le _, by rw [hm.1]; exact hlt, fun i f hf => (World.cell?_of_block (a := ⟨b, i, none⟩) (hm.2.1 b (fun a' ha' => hd ⟨b, 0, none⟩ a' e ha'))).trans (hc i f hf)⟩
end Go.Proofs.YtaodpopghacmaaaDoor
