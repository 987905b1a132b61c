/-
  Slices of Disc: how they lie, the laws' copy of them, their comparison, their marks, and what came in.
-/
import Derived.Test.YtaodpopghacmaaaDoorBase
namespace Go.Proofs.YtaodpopghacmaaaDoor
open Go.RowKit Go.ChangeShapes Go.WideShapes Go.Deep Go.Joins
set_option linter.unusedVariables false
set_option linter.unusedSimpArgs false
structure Dc where
  i : Nat
  s : Nat
def Dc.cells (p : Dc) : List Value := [.float .f32 p.i, .float .f32 p.s]
def Dc.wf (p : Dc) : Prop := p.i < 4294967296 ∧ p.s < 4294967296
/-- Up to which NaN. -/
def Dc.cn (p : Dc) : Dc := ⟨Proofs.YtaodpopghacmaaaDoor.cn p.i, Proofs.YtaodpopghacmaaaDoor.cn p.s⟩
instance : Inhabited Dc := ⟨⟨0, 0⟩⟩
/-- The slice of address A holds the ps, below block B. -/
def Dc.L (w : World) (B : Nat) (A : Option Addr) (ps : List Dc) : Prop :=
  0 < ps.length → ∃ b off, A = some ⟨b, off, none⟩ ∧ b < B ∧ ∀ i p, ps[i]? = some p → w.rangeAt b (off + i * 2) p.cells
theorem Dc.L.below {w w' : World} {B : Nat} {A : Option Addr} {ps : List Dc} (h : Dc.L w B A ps) {B' : Nat} (hb : Below B' w w') (hB : B ≤ B') : Dc.L w' B A ps := fun h0 => by
  obtain ⟨b, off, e, hlt, hc⟩ := h h0
  exact ⟨b, off, e, hlt, fun i p hp => rangeAt_of_block (hc i p hp) (hb.block b (Nat.lt_of_lt_of_le hlt hB))⟩
theorem Dc.L.more {w : World} {B B' : Nat} {A : Option Addr} {ps : List Dc} (h : Dc.L w B A ps) (hB : B ≤ B') : Dc.L w B' A ps := fun h0 => by
  obtain ⟨b, off, e, hlt, hc⟩ := h h0
  exact ⟨b, off, e, Nat.lt_of_lt_of_le hlt hB, hc⟩
theorem Dc.L.keep {w w' : World} {A : Option Addr} {ps : List Dc} (h : Dc.L w w.heap.size A ps) (hb : Below w.heap.size w w') : Dc.L w' w'.heap.size A ps := (h.below hb (Nat.le_refl _)).more hb.size
theorem Dc.L.mb {w w' : World} {A A' : Option Addr} {ps : List Dc} (h : Dc.L w w.heap.size A ps) (hm : MB A' w w') (hd : ∀ a a', A = some a → A' = some a' → a'.block ≠ a.block) : Dc.L w' w'.heap.size A ps := fun h0 => by
  obtain ⟨b, off, e, hlt, hc⟩ := h h0
  exact ⟨b, off, e, by rw [hm.1]; exact hlt, fun i p hp => rangeAt_of_block (hc i p hp) (hm.2.1 b (fun a' ha' => hd ⟨b, off, none⟩ a' e ha'))⟩
theorem Dc.at {w : World} {b o : Nat} {p : Dc} (h : w.rangeAt b o p.cells) :
    w.cell? ⟨b, o, none⟩ = some (.float .f32 p.i) ∧ w.cell? ⟨b, o + 1, none⟩ = some (.float .f32 p.s) :=
  ⟨h 0 _ rfl, h 1 _ rfl⟩
def Dc.In (w : World) (A : Option Addr) (n c : Nat) (ps : List Dc) : Prop := ps.length = n ∧ n ≤ c ∧ c ≤ maxLen ∧ Dc.L w w.heap.size A ps ∧ ∀ p ∈ ps, p.wf
theorem Dc.info : (Tryd.prog.info? 54).map (fun i => (i.zero, i.size, i.bytes)) = some (some (.agg #[.float .f32 0, .float .f32 0]), 2, 8) := by kernel_rfl
end Go.Proofs.YtaodpopghacmaaaDoor
