/-
  What adds up along a train: the quotients of the pairs, their products and sums: the program's functions.
-/
import Derived.Test.YtndmkfmfphgckabUPass
import Derived.Test.YtndmkfmfphgckabFs2
import Derived.Test.YtndmkfmfphgckabFlIn2
import Derived.Deep.DeepCutAuto
namespace Go.Proofs.Ytndmkfmfphgckab
open Go.RowKit Go.ChangeShapes Go.WideShapes Go.Deep
attribute [local go_sem ↓] Go.wp_at_zero Go.wp_at_succ
set_option linter.unusedVariables false
set_option linter.unusedSimpArgs false
set_option maxRecDepth 100000
/-- The sum behind pair k, of plays p and quotients q. -/
def sN (p q : Nat → Nat) : Nat → Nat
  | 0 => p 0
  | k + 1 => f2 .add (f2 .mul (sN p q k) (q (k + 1))) (p (k + 1))
def pF (fs : List Nat) (i : Nat) : Nat := cn (fs.getD i 0)
def qF (ps : List Px) (i : Nat) : Nat := fwdC (ps.getD i ⟨0, 0, 0⟩)
def sumL (fs : List Nat) (ps : List Px) : List Nat := (List.range ps.length).map (sN (pF fs) (qF ps))
theorem pF_at {fs : List Nat} {i f : Nat} (h : fs[i]? = some f) : pF fs i = cn f := by
  unfold pF
  rw [List.getD_eq_getElem?_getD, h]
  rfl
theorem qF_at {ps : List Px} {i : Nat} {p : Px} (h : ps[i]? = some p) : qF ps i = fwdC p := by
  unfold qF
  rw [List.getD_eq_getElem?_getD, h]
  rfl
theorem range_snoc {F : Nat → Nat} {hs : List Nat} {j x : Nat} (h : hs.map cn = (List.range j).map F) (hx : cn x = F j) : (hs ++ [x]).map cn = (List.range (j + 1)).map F := by
  rw [List.range_succ, List.map_append, List.map_append, h]
  simp [hx]
theorem range_at {F : Nat → Nat} {hs : List Nat} {n i x : Nat} (h : hs.map cn = (List.range n).map F) (hx : hs[i]? = some x) : cn x = F i := by
  have h1 := congrArg (fun l => l[i]?) h
  simp only [List.getElem?_map, hx, Option.map_some] at h1
  have hi : i < n := by
    rcases Nat.lt_or_ge i n with h2 | h2
    · exact h2
    · rw [List.getElem?_eq_none (by simpa using h2)] at h1; simp at h1
  rw [List.getElem?_range hi] at h1
  simpa using h1
/-- The call returns a slice of numbers, known up to which NaN they are; it is the call's own. -/
def FRw (cs : List Nat) (w : World) (e : Ending) (w' : World) : Prop :=
  ∃ (v : Value) (fs : List Nat), e = .returned v ∧ w'.ownsRow w.heap.size 42 1 v fs.length (fs.map (Value.float .f32)) ∧ fs.map cn = cs ∧ Below w.heap.size w w'
theorem fo_of_own {w : World} {base : Nat} {v : Value} {n : Nat} {fs : List Nat} (h : w.ownsRow base 42 1 v n (fs.map (Value.float .f32))) (hn : fs.length = n) : ∃ A c, v = .slice A n c ∧ Fo w w.heap.size A fs ∧ (∀ a, A = some a → base ≤ a.block) := by
  have hb := own_base h
  have hc := fun i (hi : i < n) => h.2
  rcases h.2 with ⟨rfl, h0⟩ | ⟨g, cap, cur, rfl, h1, h2, h3, h4, h5, h6⟩
  · subst h0
    exact ⟨none, 0, rfl, fun h => absurd h (by omega), fun a h => by cases h⟩
  · refine ⟨some ⟨g, 0, none⟩, cap, rfl, fun _ => ⟨g, 0, rfl, (hb g rfl).2, fun i f hf => ?_⟩, fun a h => by cases h; exact h1⟩
    rw [Nat.zero_add, cell_of_row _ _ i _ _ _ h2]
    have hi : i < n := by rw [← hn]; exact (List.getElem?_eq_some_iff.1 hf).1
    have e1 := congrArg (fun l => l[i]?) h6
    simp only [List.getElem?_take, List.getElem?_map, hf, Option.map_some] at e1
    rw [if_pos (by omega)] at e1
    simpa using e1
end Go.Proofs.Ytndmkfmfphgckab
