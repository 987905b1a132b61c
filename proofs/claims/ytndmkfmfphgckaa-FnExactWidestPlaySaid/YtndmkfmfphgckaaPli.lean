/-
  The play without one pair; the widest play: both sides.
-/
import Derived.Test.YtndmkfmfphgckaaPle
import Derived.Test.YtndmkfmfphgckaaMc
import Derived.Deep.RegionLaw
import Derived.Lib.SliceRun
namespace Go.Proofs.Ytndmkfmfphgckaa
open Go.RowKit Go.ChangeShapes Go.WideShapes Go.Deep
attribute [local go_sem ↓] Go.wp_at_zero Go.wp_at_succ
set_option linter.unusedVariables false
set_option linter.unusedSimpArgs false
set_option maxRecDepth 100000
/-- The play behind the last pair, if pair i had none. -/
def lessP (ps : List Px) (fs : List Nat) (i : Nat) : Nat := lastP ps (fs.set i 0)
/-- The pair without whose play there is least, among the pairs 0 to k, and that play. -/
def widP (ps : List Px) (fs : List Nat) : Nat → Nat × Nat
  | 0 => (0, lessP ps fs 0)
  | k + 1 => if oLt (lessP ps fs (k + 1)) (widP ps fs k).2 then (k + 1, lessP ps fs (k + 1)) else widP ps fs k
def RIFC (a : Int) (b : Nat) (k : Int) (w : World) (e : Ending) (w' : World) : Prop := ∃ r, e = .returned (.tuple #[.int .i64 a, .float .f32 r, .int .i64 k]) ∧ CN r b ∧ Below w.heap.size w w'
theorem flN_news {w : World} {b off : Nat} {fs : List Nat} (h : ∀ i f, fs[i]? = some f → w.cell? ⟨b, off + i, none⟩ = some (.float .f32 f)) : ∀ j u, (fs.map (Value.float .f32))[j]? = some u → w.cell? ((⟨b, off, none⟩ : Addr).add j) = some u := fun j u hu => by
  rw [List.getElem?_map] at hu
  cases hf : fs[j]? with
  | none => rw [hf] at hu; cases hu
  | some f =>
    rw [hf] at hu
    cases hu
    rw [Addr.add_mid]
    exact h j f hf
theorem there_of_own {w : World} {base : Nat} {g n cap : Nat} {xs : List Value} (h : w.ownsRow base 22 1 (.slice (some ⟨g, 0, none⟩) n cap) n xs) : w.there g 0 n := fun j hj => by
  rcases h.2 with ⟨h, _⟩ | ⟨g', cap', cur, he, hb, hh, hnc, hcap, hcs, ht⟩
  · cases h
  · simp only [Value.slice.injEq, Option.some.injEq, Addr.mk.injEq] at he
    obtain ⟨⟨rfl, _⟩, _, rfl⟩ := he
    rw [Nat.zero_add]
    refine ⟨?_, ?_⟩
    · rw [cell_of_row _ _ j _ _ _ hh]
      simp
      omega
    · unfold World.frozen?
      rw [hh]
      simp
theorem fo_set {w : World} {g n k : Nat} {fs : List Nat} (hl : fs.length = n) (hth : w.there g 0 n) (hc : ∀ i f, fs[i]? = some f → w.cell? ⟨g, i, none⟩ = some (.float .f32 f)) (hk : k < n) (hg : g < w.heap.size) (x : Nat) :
    Fo (w.setCell ⟨g, k, none⟩ (.float .f32 x)) (w.setCell ⟨g, k, none⟩ (.float .f32 x)).heap.size (some ⟨g, 0, none⟩) (fs.set k x) := fun _ => by
  refine ⟨g, 0, rfl, by simpa [World.setCell] using hg, fun i f hf => ?_⟩
  rw [Nat.zero_add]
  by_cases hik : i = k
  · subst hik
    rw [List.getElem?_set_self (by omega)] at hf
    cases hf
    exact World.rangeAt_setCells_same _ g i [_] (fun j hj => by have := hth (i + j) (by simp at hj; omega); rwa [Nat.zero_add] at this) 0 _ rfl
  · rw [List.getElem?_set_ne (by omega)] at hf
    exact World.rangeAt_setCells_apart (cs := [.float .f32 f]) (o' := i) (fun j v hj => by cases j with | zero => (simp at hj; subst hj; exact hc i f hf) | succ j => simp at hj) g k [_] (by first | exact Or.inr (Or.inl (by simp; omega)) | (rcases (by omega : i < k ∨ k < i) with h | h; exact Or.inr (Or.inl (by simp; omega)); exact Or.inr (Or.inr (by simp; omega)))) 0 _ rfl
set_option maxHeartbeats 1000000 in
theorem cloneF_any (A : Option Addr) (n c : Nat) (fs : List Nat) (w : World) (hl : fs.length = n) (h1 : 1 ≤ n) (hn : n ≤ 1048576) (hT : Fo w w.heap.size A fs) :
    Calls Try.prog 89 #[.slice A n c] w fun e w' => ∃ v, e = .returned v ∧ w'.ownsRow w.heap.size 22 1 v n (fs.map (Value.float .f32)) ∧ Below w.heap.size w w' := by
  obtain ⟨i0, hi, hz0, hz1, hz2⟩ := info_parts infoF32
  obtain ⟨b, off, rfl, hbs, hc⟩ := hT (by omega)
  have Hl := Lib.hid hl
  have N1 : Hid (∀ j u, (fs.map (Value.float .f32))[j]? = some u → (w.alloc (.cells #[] 22)).cell? ((⟨b, off, none⟩ : Addr).add j) = some u) := flN_news fun i f hf => (World.cell?_of_block (a := ⟨b, off + i, none⟩) (((Below.refl _ w).alloc (Nat.le_refl _) _).block b hbs)).trans (hc i f hf)
  have heq : ∀ w, (binOp .eql 45 (.slice (some ⟨b, off, none⟩) n c) (.slice none 0 0)).run Try.prog w = .ok (.bool false) w := fun w => Lib.run_eql_slice_nil (P := Try.prog) w 45 22 (some ⟨b, off, none⟩) n c 0 0 Try.underlying45
  clear hc hl hT
  go_enter Try.func89, Try.ntmps89
  go_wp2_with (at_builtin; refine wpList_append_own _ rfl _ _ 45 rfl w.heap.size 22 i0 _ 1 4 Try.underlying45 hi hz0 hz1 hz2 rfl (by omega) _ 0 [] rfl (own_empty _ _ _ _ (Nat.le_refl _)) _ n _ (fs.map (Value.float .f32)) rfl (by simp; exact Hl.out) N1.out (by intro u hu; obtain ⟨f, _, rfl⟩ := List.mem_map.1 hu; rfl) (by unfold maxLen; omega) (by omega) (by simp) ?_; intro v9 w9 hown9 hgrow9 hif9)
  all_goals
    have B9 : Hid (Below w.heap.size w w9) := ((Below.refl _ w).alloc (Nat.le_refl _) _).grown hgrow9 (by simp) (fun k h => by cases h; exact Nat.le_refl _)
    rw [Nat.zero_add, List.nil_append] at hown9
    have O9 := Lib.hid hown9
    clear hown9 hgrow9 hif9
    go_wp2
    go_ret
    exact ⟨_, rfl, O9.out, B9.out⟩
set_option maxHeartbeats 1000000 in
theorem playWithout_any (A A' : Option Addr) (n c c' k : Nat) (ps : List Px) (fs : List Nat) (w : World) (hl : ps.length = n) (hl' : fs.length = n) (hk : k < n) (hn : n ≤ 1048576) (hT : Px.L w w.heap.size A ps) (hT' : Fo w w.heap.size A' fs) :
    Calls Try.prog 79 #[.slice A n c, .int .i64 k, .slice A' n c'] w (RF (lessP ps fs k) w) := by
  have h1n : 1 ≤ n := by omega
  have Hl := Lib.hid hl; clear hl
  have Hl' := Lib.hid hl'; clear hl'
  have HT := Lib.hid hT; clear hT
  have HT' := Lib.hid hT'; clear hT'
  have z1 : (0 : Int) ≤ (k : Int) := by omega
  have z2 : (k : Int) < (n : Int) := by omega
  go_enter Try.func79, Try.ntmps79
  go_wp2_with fail
  refine (cloneF_any _ n _ fs _ Hl'.out h1n hn HT'.out).mono ?_
  rintro e w1 ⟨v, rfl, hr, b1⟩
  obtain ⟨g, cp, rfl, hgb⟩ := row_form hr (by omega)
  have hth := there_of_own hr
  have hgs := (own_base hr _ rfl).2
  have hcs : ∀ i f, fs[i]? = some f → w1.cell? ⟨g, i, none⟩ = some (.float .f32 f) := fun i f hf => (hr.cellAt i (by have := (List.getElem?_eq_some_iff.1 hf).1; have := Hl'.out; omega)).trans (by rw [List.getElem?_map, hf]; rfl)
  have hF := fo_set Hl'.out hth hcs hk hgs 0
  obtain ⟨e1, fz⟩ := hth k hk
  rw [Nat.zero_add] at e1 fz
  obtain ⟨v1, d1⟩ := Option.isSome_iff_exists.1 e1
  have B1 := Lib.hid b1
  have B2 : Hid (Below w.heap.size w (w1.setCell ⟨g, k, none⟩ (.float .f32 0))) := below_setCells b1 hgb [_] k
  have HF := Lib.hid hF
  have Hls : Hid ((fs.set k 0).length = n) := by show _ = _; rw [List.length_set]; exact Hl'.out
  clear hr hth hcs hF e1 b1
  go_wp2_with fail
  refine (playAt_any _ _ n _ _ ps (fs.set k 0) _ Hl.out Hls.out h1n hn (HT.out.keep B2.out) HF.out).mono ?_
  rintro e w2 ⟨r, rfl, hr, b2⟩
  have Hr := Lib.hid hr
  have B3 : Hid (Below w.heap.size w w2) := b_then B2.out b2
  clear hr b2 d1 fz
  go_wp2
  go_ret
  refine ⟨_, rfl, ?_, B3.out⟩
  unfold lessP lastP
  rw [Hl.out]
  exact Hr.out
end Go.Proofs.Ytndmkfmfphgckaa
