/-
  The law's mark on a train; what a call that returns a slice of numbers and a code leaves.
-/
import Derived.Test.YtdfookgncokgjabFs
namespace Go.Proofs.Ytdfookgncokgjab
open Go.RowKit Go.ChangeShapes Go.WideShapes Go.Deep
set_option linter.unusedVariables false
set_option linter.unusedSimpArgs false
set_option maxRecDepth 100000 in
theorem markTrain_any (b : Nat) (n c : Nat) (w : World) (hn : n ≤ 1048576) (ht : w.there b 0 (n * 3)) :
    Calls Try.prog 23 #[.slice (some ⟨b, 0, none⟩) n c, .int .i64 1] w fun e w' => e = .returned (.int .i64 (1 + 3 * n)) ∧ MB (some ⟨b, 0, none⟩) w w' := by
  have Ht0 := Lib.hid ht; clear ht
  go_enter Try.func23, Try.ntmps23
  go_wp2
  go_loopw [1, 5] (fun q i wr => ∃ k : Nat, k ≤ n ∧ q = .int .i64 (1 + 3 * k) ∧ i = .int .i64 k ∧ MB (some ⟨b, 0, none⟩) w wr ∧ wr.there b 0 (n * 3)) (fun _ i _ => n - (intOf i).toNat)
  case atStart => exact ⟨0, Nat.zero_le _, by simp, rfl, MB.refl _ _, Ht0.out⟩
  case round =>
    obtain ⟨k, hkn, rfl, rfl, hm, hth2⟩ := hrel
    have Hm := Lib.hid hm; clear hm
    have Ht := Lib.hid hth2; clear hth2
    by_cases hlt : k < n
    · obtain ⟨e0, z0⟩ := Ht.out (k * 3) (by omega)
      obtain ⟨e1, z1⟩ := Ht.out (k * 3 + 1) (by omega)
      obtain ⟨e2, z2⟩ := Ht.out (k * 3 + 2) (by omega)
      rw [Nat.zero_add] at e0 z0 e1 z1 e2 z2
      obtain ⟨v0, c0⟩ := Option.isSome_iff_exists.1 e0
      obtain ⟨v1, c1⟩ := Option.isSome_iff_exists.1 e1
      obtain ⟨v2, c2⟩ := Option.isSome_iff_exists.1 e2
      clear e0 e1 e2
      go_wp2
      clear c0 c1 c2 z0 z1 z2
      go_roundw
      case rel => exact ⟨k + 1, by omega, by go_num, by go_num, ((Hm.out.set (k * 3) [_]).set (k * 3 + 1) [_]).set (k * 3 + 2) [_], World.there_setCells (World.there_setCells (World.there_setCells Ht.out b (k * 3) [_]) b (k * 3 + 1) [_]) b (k * 3 + 2) [_]⟩
      case measure => simp [intOf]; omega
    · have hkn' : k = n := by omega
      subst hkn'
      go_wp2
      go_ret
      exact ⟨rfl, Hm.out⟩
theorem Fl.mb {w w' : World} {B0 B : Nat} {A A' : Option Addr} {fs : List Nat} (h : Fl w B0 B A fs) (hm : MB A' w w') (hd : ∀ a, A' = some a → a.block < B0 ∨ B ≤ a.block) : Fl w' B0 B A fs := fun h0 => by
  obtain ⟨b, e, h1, h2, hc⟩ := h h0
  exact ⟨b, e, h1, h2, fun i f hf => (World.cell?_of_block (a := ⟨b, i, none⟩) (hm.2.1 b (fun a ha => by have := hd a ha; omega))).trans (hc i f hf)⟩
/-- The call returns a slice of numbers, known up to which NaN they are, and a code; the slice is the call's own and may be written. -/
def FLC (cs : List Nat) (k : Int) (w : World) (e : Ending) (w' : World) : Prop :=
  ∃ A n c fs, e = .returned (.tuple #[.slice A n c, .int .i64 k]) ∧ fs.length = n ∧ fs.map cn = cs ∧ Fl w' w.heap.size w'.heap.size A fs ∧ (0 < n → ∃ b, A = some ⟨b, 0, none⟩ ∧ w'.there b 0 n) ∧ (∀ a, A = some a → w.heap.size ≤ a.block ∧ a.block < w'.heap.size) ∧ Below w.heap.size w w'
theorem flc_of_row {w w' : World} {v : Value} {n : Nat} {fs : List Nat} {k : Int} (h : w'.ownsRow w.heap.size 31 1 v n (fs.map (Value.float .f32))) (hb : Below w.heap.size w w') : FLC (fs.map cn) k w (.returned (.tuple #[v, .int .i64 k])) w' := by
  obtain ⟨h1, h2⟩ := h
  simp at h1
  rcases h2 with ⟨rfl, h0⟩ | ⟨g, cap, cur, rfl, hg, hh, hnc, hcap, hcs, ht⟩
  · exact ⟨none, 0, 0, fs, rfl, by omega, rfl, fun h => absurd h (by omega), fun h => absurd h (by omega), fun a h => (by cases h), hb⟩
  · have hlt : g < w'.heap.size := by
      rcases Nat.lt_or_ge g w'.heap.size with hlt | hge
      · exact hlt
      · rw [Array.getElem?_eq_none hge] at hh; cases hh
    refine ⟨some ⟨g, 0, none⟩, n, cap, fs, rfl, h1, rfl, fun _ => ⟨g, rfl, hg, hlt, fun i f hf => ?_⟩, fun _ => ⟨g, rfl, fun j hj => ?_⟩, fun a h => (by cases h; exact ⟨hg, hlt⟩), hb⟩
    · rw [cell_of_row _ _ i _ _ _ hh]
      have hi : i < n := by rw [← h1]; exact (List.getElem?_eq_some_iff.1 hf).1
      have e1 := congrArg (fun l => l[i]?) ht
      simp only [List.getElem?_take, List.getElem?_map, hf, Option.map_some] at e1
      rw [if_pos (by omega)] at e1
      simpa using e1
    · rw [Nat.zero_add]
      refine ⟨?_, ?_⟩
      · rw [cell_of_row _ _ j _ _ _ hh]
        simp
        omega
      · unfold World.frozen?
        rw [hh]
        simp
end Go.Proofs.Ytdfookgncokgjab
