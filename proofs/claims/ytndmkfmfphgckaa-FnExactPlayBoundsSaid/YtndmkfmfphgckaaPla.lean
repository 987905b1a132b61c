/-
  What adds up along a train: the quotients of the pairs, their products and sums: the program's functions.
-/
import Derived.Test.YtndmkfmfphgckaaUPass
import Derived.Test.YtndmkfmfphgckaaFs2
import Derived.Test.YtndmkfmfphgckaaFlIn2
import Derived.Deep.DeepCutAuto
namespace Go.Proofs.Ytndmkfmfphgckaa
open Go.RowKit Go.ChangeShapes Go.WideShapes Go.Deep
attribute [local go_sem ↓] Go.wp_at_zero Go.wp_at_succ
set_option linter.unusedVariables false
set_option linter.unusedSimpArgs false
set_option maxRecDepth 100000
/-- The sum behind pair k, of plays p and quotients q. -/
def sN (p q : Nat → Nat) : Nat → Nat
  | 0 => p 0
  | k + 1 => f2 .add (f2 .mul (sN p q k) (q (k + 1))) (p (k + 1))
def pF (fs : List Nat) (i : Nat) : Nat := cn (fs.getD i 0)
def qF (ps : List Px) (i : Nat) : Nat := fwdC (ps.getD i ⟨0, 0, 0⟩)
def sumL (fs : List Nat) (ps : List Px) : List Nat := (List.range ps.length).map (sN (pF fs) (qF ps))
theorem pF_at {fs : List Nat} {i f : Nat} (h : fs[i]? = some f) : pF fs i = cn f := by
  unfold pF
  rw [List.getD_eq_getElem?_getD, h]
  rfl
theorem qF_at {ps : List Px} {i : Nat} {p : Px} (h : ps[i]? = some p) : qF ps i = fwdC p := by
  unfold qF
  rw [List.getD_eq_getElem?_getD, h]
  rfl
theorem range_snoc {F : Nat → Nat} {hs : List Nat} {j x : Nat} (h : hs.map cn = (List.range j).map F) (hx : cn x = F j) : (hs ++ [x]).map cn = (List.range (j + 1)).map F := by
  rw [List.range_succ, List.map_append, List.map_append, h]
  simp [hx]
theorem range_at {F : Nat → Nat} {hs : List Nat} {n i x : Nat} (h : hs.map cn = (List.range n).map F) (hx : hs[i]? = some x) : cn x = F i := by
  have h1 := congrArg (fun l => l[i]?) h
  simp only [List.getElem?_map, hx, Option.map_some] at h1
  have hi : i < n := by
    rcases Nat.lt_or_ge i n with h2 | h2
    · exact h2
    · rw [List.getElem?_eq_none (by simpa using h2)] at h1; simp at h1
  rw [List.getElem?_range hi] at h1
  simpa using h1
/-- The call returns a slice of numbers, known up to which NaN they are; it is the call's own. -/
def FRw (cs : List Nat) (w : World) (e : Ending) (w' : World) : Prop :=
  ∃ (v : Value) (fs : List Nat), e = .returned v ∧ w'.ownsRow w.heap.size 22 1 v fs.length (fs.map (Value.float .f32)) ∧ fs.map cn = cs ∧ Below w.heap.size w w'
theorem fo_of_own {w : World} {base : Nat} {v : Value} {n : Nat} {fs : List Nat} (h : w.ownsRow base 22 1 v n (fs.map (Value.float .f32))) (hn : fs.length = n) : ∃ A c, v = .slice A n c ∧ Fo w w.heap.size A fs ∧ (∀ a, A = some a → base ≤ a.block) := by
  have hb := own_base h
  have hc := fun i (hi : i < n) => h.2
  rcases h.2 with ⟨rfl, h0⟩ | ⟨g, cap, cur, rfl, h1, h2, h3, h4, h5, h6⟩
  · subst h0
    exact ⟨none, 0, rfl, fun h => absurd h (by omega), fun a h => by cases h⟩
  · refine ⟨some ⟨g, 0, none⟩, cap, rfl, fun _ => ⟨g, 0, rfl, (hb g rfl).2, fun i f hf => ?_⟩, fun a h => by cases h; exact h1⟩
    rw [Nat.zero_add, cell_of_row _ _ i _ _ _ h2]
    have hi : i < n := by rw [← hn]; exact (List.getElem?_eq_some_iff.1 hf).1
    have e1 := congrArg (fun l => l[i]?) h6
    simp only [List.getElem?_take, List.getElem?_map, hf, Option.map_some] at e1
    rw [if_pos (by omega)] at e1
    simpa using e1
set_option maxHeartbeats 4000000 in
theorem quotients_any (A : Option Addr) (n c : Nat) (ps : List Px) (w : World) (hl : ps.length = n) (hn : n ≤ 1048576) (hT : Px.L w w.heap.size A ps) :
    Calls Try.prog 77 #[.slice A n c] w (FRw ((List.range n).map (qF ps)) w) := by
  obtain ⟨i0, hi, hz0, hz1, hz2⟩ := info_parts infoF32
  have Hl := Lib.hid hl; clear hl
  have HT := Lib.hid hT; clear hT
  go_enter Try.func77, Try.ntmps77
  go_wp2_with (at_make; refine wpList_make_own _ rfl _ _ 45 rfl w.heap.size 22 i0 _ 1 Try.underlying45 hi hz0 hz1 _ _ _ n rfl rfl (by omega) (by rw [hz2]; omega) (by unfold maxLen; omega) (Nat.le_refl _) ?_; intro w2 hown hgrow; have B2 : Hid (Below w.heap.size w w2) := (Below.refl _ _).grown hgrow (Nat.le_refl _) (fun k h => by cases h); have Ho := Lib.hid hown; have hsz2 := (own_base hown _ rfl).2; clear hown hgrow)
  go_loopw [3, 5, 11] (fun v p5 i wr => ∃ (j : Nat) (hs : List Nat), j ≤ n ∧ i = .int .i64 j ∧ Hid (wr.ownsRow w.heap.size 22 1 v j (hs.map (Value.float .f32))) ∧ Hid (hs.map cn = (List.range j).map (qF ps)) ∧ Hid (hs.length = j) ∧ Hid (Below w.heap.size w wr)) (fun _ _ i _ => n - (intOf i).toNat)
  case atStart => exact ⟨0, [], Nat.zero_le _, rfl, Ho, rfl, rfl, B2⟩
  case round =>
    obtain ⟨j, hs, hj, rfl, Hown, Hcs, Hfl, Hbb⟩ := hrel
    by_cases hlt : j < n
    · have hkl : j < ps.length := by have := Hl.out; omega
      obtain ⟨b, off, rfl, hbs, hc⟩ := HT.out (by omega)
      obtain ⟨p, hp⟩ : ∃ p, ps[j]? = some p := ⟨_, List.getElem?_eq_getElem hkl⟩
      obtain ⟨c0, c1, c2⟩ := Px.at (rangeAt_of_block (hc j p hp) (Hbb.out.block b hbs))
      have Hq := Lib.hid (qF_at hp)
      have Hba := Lib.hid (own_base Hown.out)
      clear hc hkl hp
      go_wp2_with (first
        | (go_at_call 88; refine (forward_any p _).mono ?_; rintro e w5 ⟨r, rfl, hr, b5⟩; have B5 : Hid (Below w.heap.size w w5) := b_then (b_alloc Hbb.out _) b5; have O5 : Hid (w5.ownsRow w.heap.size 22 1 _ j (hs.map (Value.float .f32))) := own_below (Hown.out.alloc _) b5; have Hr := Lib.hid hr; clear hr b5)
        | (at_builtin; refine wpList_append_own _ rfl _ _ 45 rfl w.heap.size 22 i0 _ 1 4 Try.underlying45 hi hz0 hz1 hz2 rfl (by omega) _ j _ rfl (O5.out.alloc _) _ 1 _ [_] rfl rfl (World.news_of_block (cs := #[_]) (heap_alloc_new _ _)) (by intro u hu; simp at hu; subst hu; rfl) (by unfold maxLen; omega) (by omega) (by have := B5.out.size; simp; omega) ?_; intro v9 w9 hown9 hgrow9 hif9))
      all_goals
        have B9 : Hid (Below w.heap.size w w9) := (B5.out.alloc B5.out.size _).grown hgrow9 (by have := B5.out.size; simp; omega) (fun k h => (Hba.out k h).1)
        have O9 : Hid (w9.ownsRow w.heap.size 22 1 v9 (j + 1) ((hs ++ [r]).map (Value.float .f32))) := by
          rw [List.map_append]
          exact hown9
        have e9 : Hid ((hs ++ [r]).map cn = (List.range (j + 1)).map (qF ps)) := range_snoc Hcs.out (Hr.out.trans Hq.out.symm)
        have l9 : Hid ((hs ++ [r]).length = j + 1) := by show _ = _; rw [List.length_append, Hfl.out]; rfl
        clear hown9 hgrow9 hif9 c0 c1 c2
        go_wp2
        go_roundw
        case rel => exact ⟨j + 1, hs ++ [r], by omega, by go_num, O9, e9, l9, B9⟩
        case measure => simp [intOf]; omega
    · obtain rfl : j = n := by omega
      go_wp2
      go_ret
      exact ⟨_, hs, rfl, by rw [Hfl.out]; exact Hown.out, Hcs.out, Hbb.out⟩
end Go.Proofs.Ytndmkfmfphgckaa
