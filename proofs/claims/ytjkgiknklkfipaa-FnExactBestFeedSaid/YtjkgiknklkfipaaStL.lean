/-
  Slices of Stone: how they lie, the laws' copy of them, their comparison, their marks, and what came in.
-/
import Derived.Test.YtjkgiknklkfipaaBase
import Derived.Test.YtjkgiknklkfipaaSk
namespace Go.Proofs.Ytjkgiknklkfipaa
open Go.RowKit Go.ChangeShapes Go.WideShapes Go.Deep Go.Joins
set_option linter.unusedVariables false
set_option linter.unusedSimpArgs false
def Sn.cells (p : Sn) : List Value := [.float .f32 p.d, .float .f32 p.r, .float .f32 p.b, .float .f32 p.g]
def Sn.wf (p : Sn) : Prop := p.d < 4294967296 ∧ p.r < 4294967296 ∧ p.b < 4294967296 ∧ p.g < 4294967296
/-- Up to which NaN. -/
def Sn.cn (p : Sn) : Sn := ⟨Proofs.Ytjkgiknklkfipaa.cn p.d, Proofs.Ytjkgiknklkfipaa.cn p.r, Proofs.Ytjkgiknklkfipaa.cn p.b, Proofs.Ytjkgiknklkfipaa.cn p.g⟩
instance : Inhabited Sn := ⟨⟨0, 0, 0, 0⟩⟩
/-- The slice of address A holds the ps, below block B. -/
def Sn.L (w : World) (B : Nat) (A : Option Addr) (ps : List Sn) : Prop :=
  0 < ps.length → ∃ b off, A = some ⟨b, off, none⟩ ∧ b < B ∧ ∀ i p, ps[i]? = some p → w.rangeAt b (off + i * 4) p.cells
theorem Sn.L.below {w w' : World} {B : Nat} {A : Option Addr} {ps : List Sn} (h : Sn.L w B A ps) {B' : Nat} (hb : Below B' w w') (hB : B ≤ B') : Sn.L w' B A ps := fun h0 => by
  obtain ⟨b, off, e, hlt, hc⟩ := h h0
  exact ⟨b, off, e, hlt, fun i p hp => rangeAt_of_block (hc i p hp) (hb.block b (Nat.lt_of_lt_of_le hlt hB))⟩
theorem Sn.L.more {w : World} {B B' : Nat} {A : Option Addr} {ps : List Sn} (h : Sn.L w B A ps) (hB : B ≤ B') : Sn.L w B' A ps := fun h0 => by
  obtain ⟨b, off, e, hlt, hc⟩ := h h0
  exact ⟨b, off, e, Nat.lt_of_lt_of_le hlt hB, hc⟩
theorem Sn.L.keep {w w' : World} {A : Option Addr} {ps : List Sn} (h : Sn.L w w.heap.size A ps) (hb : Below w.heap.size w w') : Sn.L w' w'.heap.size A ps := (h.below hb (Nat.le_refl _)).more hb.size
theorem Sn.L.mb {w w' : World} {A A' : Option Addr} {ps : List Sn} (h : Sn.L w w.heap.size A ps) (hm : MB A' w w') (hd : ∀ a a', A = some a → A' = some a' → a'.block ≠ a.block) : Sn.L w' w'.heap.size A ps := fun h0 => by
  obtain ⟨b, off, e, hlt, hc⟩ := h h0
  exact ⟨b, off, e, by rw [hm.1]; exact hlt, fun i p hp => rangeAt_of_block (hc i p hp) (hm.2.1 b (fun a' ha' => hd ⟨b, off, none⟩ a' e ha'))⟩
theorem Sn.at {w : World} {b o : Nat} {p : Sn} (h : w.rangeAt b o p.cells) :
    w.cell? ⟨b, o, none⟩ = some (.float .f32 p.d) ∧ w.cell? ⟨b, o + 1, none⟩ = some (.float .f32 p.r) ∧ w.cell? ⟨b, o + 2, none⟩ = some (.float .f32 p.b) ∧ w.cell? ⟨b, o + 3, none⟩ = some (.float .f32 p.g) :=
  ⟨h 0 _ rfl, h 1 _ rfl, h 2 _ rfl, h 3 _ rfl⟩
end Go.Proofs.Ytjkgiknklkfipaa
