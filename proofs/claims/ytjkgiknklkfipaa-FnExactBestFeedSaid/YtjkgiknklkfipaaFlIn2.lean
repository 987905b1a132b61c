/-
  A slice of single-precision numbers that came in: its numbers; the law's own copy of it.
-/
import Derived.Test.YtjkgiknklkfipaaFs2
namespace Go.Proofs.Ytjkgiknklkfipaa
open Go.RowKit Go.ChangeShapes Go.WideShapes Go.Deep
set_option linter.unusedVariables false
set_option linter.unusedSimpArgs false
/-- The slice of address A, wherever it begins, holds the numbers fs below block B. -/
def Fo (w : World) (B : Nat) (A : Option Addr) (fs : List Nat) : Prop :=
  0 < fs.length → ∃ b off, A = some ⟨b, off, none⟩ ∧ b < B ∧ ∀ i f, fs[i]? = some f → w.cell? ⟨b, off + i, none⟩ = some (.float .f32 f)
theorem Fo.keep {w w' : World} {A : Option Addr} {fs : List Nat} (h : Fo w w.heap.size A fs) (hb : Below w.heap.size w w') : Fo w' w'.heap.size A fs := fun h0 => by
  obtain ⟨b, off, e, h1, hc⟩ := h h0
  exact ⟨b, off, e, Nat.lt_of_lt_of_le h1 hb.size, fun i f hf => (World.cell?_of_block (a := ⟨b, off + i, none⟩) (hb.block b h1)).trans (hc i f hf)⟩
def FlIn (w : World) (A : Option Addr) (n c : Nat) (fs : List Nat) : Prop := fs.length = n ∧ n ≤ c ∧ c ≤ maxLen ∧ Fo w w.heap.size A fs
/-- The copy: its block is the first free one. -/
def MadeF (w w' : World) (n : Nat) (fs : List Nat) : Prop :=
  w'.there w.heap.size 0 n ∧ (∀ i f, fs[i]? = some f → w'.cell? ⟨w.heap.size, i, none⟩ = some (.float .f32 f)) ∧ w.heap.size < w'.heap.size ∧ Below w.heap.size w w'
theorem MadeF.fl {w w' : World} {n : Nat} {fs : List Nat} (h : MadeF w w' n fs) : Fl w' w.heap.size w'.heap.size (some ⟨w.heap.size, 0, none⟩) fs := fun _ => ⟨_, rfl, Nat.le_refl _, h.2.2.1, h.2.1⟩
set_option maxRecDepth 100000 in
theorem toFloats_any (A : Option Addr) (n c : Nat) (fs : List Nat) (w : World) (hl : fs.length = n) (hn : n ≤ 1048576) (hT : Fo w w.heap.size A fs) :
    Calls Try.prog 20 #[.slice A n c] w fun e w' => e = .returned (.slice (some ⟨w.heap.size, 0, none⟩) n n) ∧ MadeF w w' n fs := by
  obtain ⟨i0, hi, hz0, hz1, hz2⟩ := info_parts infoF32
  have hmk : ∀ wx, (Instr.makeSlice 41 (.int .i64 (n : Int)) (.int .i64 (n : Int))).run Try.prog wx = .ok (.slice (some ⟨wx.heap.size, 0, none⟩) n n) (wx.alloc (.cells (madeCells #[.float .f32 0] n) 24)) := fun wx => by
    have := run_make (P := Try.prog) wx 41 24 i0 _ Try.underlying41 hi hz0 .i64 .i64 n n (by omega) (Int.le_refl _) (by rw [hz2]; omega) (by omega)
    simpa [hz1, Value.cells] using this
  have hsz : (madeCells #[.float .f32 0] n).size = n := size_madeCells _ _
  have hth := there_new w (madeCells #[.float .f32 0] n) 24
  rw [hsz] at hth
  generalize madeCells #[.float .f32 0] n = row at *
  clear hsz hi hz0 hz1 hz2
  have Hth := Lib.hid hth; clear hth
  have Hl := Lib.hid hl; clear hl
  have HT := Lib.hid hT; clear hT
  go_enter Try.func20, Try.ntmps20
  go_wp2
  clear hmk
  go_loopw [4] (fun i wr => ∃ k : Nat, k ≤ n ∧ i = .int .i64 k ∧ wr.there w.heap.size 0 n ∧ (∀ i f, i < k → fs[i]? = some f → wr.cell? ⟨w.heap.size, i, none⟩ = some (.float .f32 f)) ∧ Below w.heap.size w wr ∧ w.heap.size < wr.heap.size) (fun i _ => n - (intOf i).toNat)
  case atStart => exact ⟨0, Nat.zero_le _, rfl, Hth.out, fun i p h => absurd h (by omega), (Below.refl _ _).alloc (Nat.le_refl _) _, by simp⟩
  case round =>
    obtain ⟨k, hk, rfl, hth, hr, hb, hs⟩ := hrel
    have Hr := Lib.hid hr; clear hr
    have Hh := Lib.hid hth; clear hth
    have Hb := Lib.hid hb; clear hb
    by_cases hlt : k < n
    · have hkl : k < fs.length := by have := Hl.out; omega
      obtain ⟨b, off, rfl, hbs, hc⟩ := HT.out (by omega)
      obtain ⟨f, hf⟩ : ∃ f, fs[k]? = some f := ⟨_, List.getElem?_eq_getElem hkl⟩
      have c0 := (World.cell?_of_block (a := ⟨b, off + k, none⟩) (Hb.out.block b hbs)).trans (hc k f hf)
      obtain ⟨e1, z1⟩ := Hh.out k hlt
      rw [Nat.zero_add] at e1 z1
      obtain ⟨v1, d1⟩ := Option.isSome_iff_exists.1 e1
      have hbz : b < wr.heap.size := Nat.lt_of_lt_of_le hbs Hb.out.size
      clear hc hkl e1
      have Hf := Lib.hid hf; clear hf
      go_wp2
      clear c0 d1 z1
      go_roundw
      case rel =>
        refine ⟨k + 1, by omega, by go_num, World.there_setCells Hh.out w.heap.size k [_], fun i g hi hg => ?_, below_setCells Hb.out (Nat.le_refl _) [_] k, by first | exact hs | (rw [size_setCells w.heap.size [_]]; exact hs) | (simp; exact hs)⟩
        rcases (by omega : i < k ∨ i = k) with h | rfl
        · exact World.rangeAt_setCells_apart (cs := [.float .f32 g]) (o' := i) (fun j v hj => by cases j with | zero => (simp at hj; subst hj; exact Hr.out i g h hg) | succ j => simp at hj) w.heap.size k [_] (Or.inr (Or.inl (by simp; omega))) 0 _ rfl
        · have hpq := Hf.out
          rw [hg] at hpq
          cases hpq
          exact World.rangeAt_setCells_same _ w.heap.size i [_] (fun j hj => by have := Hh.out (i + j) (by simp at hj; omega); rwa [Nat.zero_add] at this) 0 _ rfl
      case measure => simp [intOf]; omega
    · have hkn : k = n := by omega
      subst hkn
      clear HT
      go_wp2
      go_ret
      exact ⟨rfl, Hh.out, fun i p hp => Hr.out i p (by have := (List.getElem?_eq_some_iff.1 hp).1; have := Hl.out; omega) hp, hs, Hb.out⟩
section
variable {H : Type} {enc : TypeId × Value → H} {w : World} {base : Nat} {spare : Nat → Bool} {held : Bool}
theorem floats_in {A : Option Addr} {n c : Nat} {d : DataW H} {p : List MemPlace} (lt : ∀ x ∈ p, x.block < w.heap.size) (h : DataW.Trod enc Try.prog w 0 (fun _ => true) true 41 (.slice A n c) d p) : ∃ fs, FlIn w A n c fs := by
  obtain ⟨fuel, hf⟩ := h
  rcases open_slice Try.underlying41 hf with ⟨hcs, _⟩ | ⟨a, len, cap, m, k, D, Pl, hcs, _, hl, hm, hmm, hx, hi⟩
  · simp [Value.cells] at hcs
    obtain ⟨rfl, rfl, rfl⟩ := hcs
    exact ⟨[], rfl, Nat.le_refl _, Nat.zero_le _, fun h => absurd h (by simp)⟩
  · simp [Value.cells] at hcs
    obtain ⟨rfl, rfl, rfl⟩ := hcs
    have hC : Try.prog.cellsOf 24 = 1 := by kernel_rfl
    rw [hC] at hi hx
    have hmn : n ≤ m := by rw [hmm]; simpa using hl
    obtain ⟨V, hV⟩ := choose_lt (α := Nat) (n := n) (p := fun i f => w.cell? (a.add i) = some (.float .f32 f)) (fun i hin => by
      obtain ⟨cs', h1, h2⟩ := hi i (by omega)
      obtain ⟨q, rfl, hq⟩ := trod_f32x Try.underlying24 h2
      obtain ⟨_, h3, h4⟩ := World.cells?_some h1
      refine ⟨q, ?_⟩
      have := h4 0 (by omega)
      simpa [Addr.add] using this)
    refine ⟨(List.range n).map V, by simp, hl, hm, ?_⟩
    intro h0
    have hn : 0 < n := by simpa using h0
    obtain ⟨b, off, spot⟩ := a
    have hc0 := hV 0 hn
    have hc0' : w.cell? ⟨b, off, spot⟩ = some (.float .f32 (V 0)) := by simpa [Addr.add] using hc0
    have hspot : spot = none := by simpa using World.cell?_spot hc0'
    subst hspot
    refine ⟨b, off, rfl, block_lt_of_cell hc0', ?_⟩
    intro i q hq
    obtain ⟨hil, e⟩ := List.getElem?_eq_some_iff.1 hq
    simp at hil e
    subst e
    have := hV i hil
    rwa [Addr.add_mid] at this
end
end Go.Proofs.Ytjkgiknklkfipaa
