/-
  Slices of Fraction: how they lie, the laws' copy of them, their comparison, their marks, and what came in.
-/
import Derived.Test.YtjkgiknklkfipaaBase
import Derived.Test.YtjkgiknklkfipaaEx
namespace Go.Proofs.Ytjkgiknklkfipaa
open Go.RowKit Go.ChangeShapes Go.WideShapes Go.Deep Go.Joins
set_option linter.unusedVariables false
set_option linter.unusedSimpArgs false
def Fr.cells (p : Fr) : List Value := [.int .i64 p.p, .int .i64 p.q]
def Fr.wf (p : Fr) : Prop := ((Lit.int .i64 p.p).wf = true) ∧ ((Lit.int .i64 p.q).wf = true)
/-- Up to which NaN. -/
def Fr.cn (p : Fr) : Fr := ⟨p.p, p.q⟩
instance : Inhabited Fr := ⟨⟨0, 0⟩⟩
/-- The slice of address A holds the ps, below block B. -/
def Fr.L (w : World) (B : Nat) (A : Option Addr) (ps : List Fr) : Prop :=
  0 < ps.length → ∃ b off, A = some ⟨b, off, none⟩ ∧ b < B ∧ ∀ i p, ps[i]? = some p → w.rangeAt b (off + i * 2) p.cells
theorem Fr.L.below {w w' : World} {B : Nat} {A : Option Addr} {ps : List Fr} (h : Fr.L w B A ps) {B' : Nat} (hb : Below B' w w') (hB : B ≤ B') : Fr.L w' B A ps := fun h0 => by
  obtain ⟨b, off, e, hlt, hc⟩ := h h0
  exact ⟨b, off, e, hlt, fun i p hp => rangeAt_of_block (hc i p hp) (hb.block b (Nat.lt_of_lt_of_le hlt hB))⟩
theorem Fr.L.more {w : World} {B B' : Nat} {A : Option Addr} {ps : List Fr} (h : Fr.L w B A ps) (hB : B ≤ B') : Fr.L w B' A ps := fun h0 => by
  obtain ⟨b, off, e, hlt, hc⟩ := h h0
  exact ⟨b, off, e, Nat.lt_of_lt_of_le hlt hB, hc⟩
theorem Fr.L.keep {w w' : World} {A : Option Addr} {ps : List Fr} (h : Fr.L w w.heap.size A ps) (hb : Below w.heap.size w w') : Fr.L w' w'.heap.size A ps := (h.below hb (Nat.le_refl _)).more hb.size
theorem Fr.L.mb {w w' : World} {A A' : Option Addr} {ps : List Fr} (h : Fr.L w w.heap.size A ps) (hm : MB A' w w') (hd : ∀ a a', A = some a → A' = some a' → a'.block ≠ a.block) : Fr.L w' w'.heap.size A ps := fun h0 => by
  obtain ⟨b, off, e, hlt, hc⟩ := h h0
  exact ⟨b, off, e, by rw [hm.1]; exact hlt, fun i p hp => rangeAt_of_block (hc i p hp) (hm.2.1 b (fun a' ha' => hd ⟨b, off, none⟩ a' e ha'))⟩
theorem Fr.at {w : World} {b o : Nat} {p : Fr} (h : w.rangeAt b o p.cells) :
    w.cell? ⟨b, o, none⟩ = some (.int .i64 p.p) ∧ w.cell? ⟨b, o + 1, none⟩ = some (.int .i64 p.q) :=
  ⟨h 0 _ rfl, h 1 _ rfl⟩
def Fr.In (w : World) (A : Option Addr) (n c : Nat) (ps : List Fr) : Prop := ps.length = n ∧ n ≤ c ∧ c ≤ maxLen ∧ Fr.L w w.heap.size A ps ∧ ∀ p ∈ ps, p.wf
theorem Fr.info : (Try.prog.info? 28).map (fun i => (i.zero, i.size, i.bytes)) = some (some (.agg #[.int .i64 0, .int .i64 0]), 2, 16) := by kernel_rfl
end Go.Proofs.Ytjkgiknklkfipaa
