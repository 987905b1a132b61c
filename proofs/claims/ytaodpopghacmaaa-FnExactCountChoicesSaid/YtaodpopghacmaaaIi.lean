/-
  Slices of small whole numbers: how they lie, the laws' copy of them, their comparison, their marks, and what came in.
-/
import Derived.Test.YtaodpopghacmaaaBase
namespace Go.Proofs.Ytaodpopghacmaaa
open Go.RowKit Go.ChangeShapes Go.WideShapes Go.Deep Go.Joins
set_option linter.unusedVariables false
set_option linter.unusedSimpArgs false
/-- The slice of address A, wherever it begins, holds the numbers zs, below block B. -/
def Ii (w : World) (B : Nat) (A : Option Addr) (zs : List Int) : Prop :=
  0 < zs.length → ∃ b off, A = some ⟨b, off, none⟩ ∧ b < B ∧ ∀ i z, zs[i]? = some z → w.cell? ⟨b, off + i, none⟩ = some (.int .i16 z)
theorem Ii.below {w w' : World} {B : Nat} {A : Option Addr} {zs : List Int} (h : Ii w B A zs) {B' : Nat} (hb : Below B' w w') (hB : B ≤ B') : Ii w' B A zs := fun h0 => by
  obtain ⟨b, off, e, h1, hc⟩ := h h0
  exact ⟨b, off, e, h1, fun i z hz => (World.cell?_of_block (a := ⟨b, off + i, none⟩) (hb.block b (Nat.lt_of_lt_of_le h1 hB))).trans (hc i z hz)⟩
theorem Ii.more {w : World} {B B' : Nat} {A : Option Addr} {zs : List Int} (h : Ii w B A zs) (hB : B ≤ B') : Ii w B' A zs := fun h0 => by
  obtain ⟨b, off, e, h1, hc⟩ := h h0
  exact ⟨b, off, e, Nat.lt_of_lt_of_le h1 hB, hc⟩
theorem Ii.keep {w w' : World} {A : Option Addr} {zs : List Int} (h : Ii w w.heap.size A zs) (hb : Below w.heap.size w w') : Ii w' w'.heap.size A zs := (h.below hb (Nat.le_refl _)).more hb.size
theorem Ii.mb {w w' : World} {A A' : Option Addr} {zs : List Int} (h : Ii w w.heap.size A zs) (hm : MB A' w w') (hd : ∀ a a', A = some a → A' = some a' → a'.block ≠ a.block) : Ii w' w'.heap.size A zs := fun h0 => by
  obtain ⟨b, off, e, hlt, hc⟩ := h h0
  exact ⟨b, off, e, by rw [hm.1]; exact hlt, fun i z hz => (World.cell?_of_block (a := ⟨b, off + i, none⟩) (hm.2.1 b (fun a' ha' => hd ⟨b, off, none⟩ a' e ha'))).trans (hc i z hz)⟩
def I16 (z : Int) : Prop := -32768 ≤ z ∧ z ≤ 32767
def IiIn (w : World) (A : Option Addr) (n c : Nat) (zs : List Int) : Prop := zs.length = n ∧ n ≤ c ∧ c ≤ maxLen ∧ Ii w w.heap.size A zs ∧ ∀ z ∈ zs, I16 z
/-- The copy: its block is the first free one. -/
def MadeI (w w' : World) (n : Nat) (zs : List Int) : Prop :=
  w'.there w.heap.size 0 n ∧ (∀ i z, zs[i]? = some z → w'.cell? ⟨w.heap.size, i, none⟩ = some (.int .i16 z)) ∧ w.heap.size < w'.heap.size ∧ Below w.heap.size w w'
theorem MadeI.ii {w w' : World} {n : Nat} {zs : List Int} (h : MadeI w w' n zs) : Ii w' w'.heap.size (some ⟨w.heap.size, 0, none⟩) zs := fun _ => ⟨_, _, rfl, h.2.2.1, fun i z hz => by rw [Nat.zero_add]; exact h.2.1 i z hz⟩
theorem infoI16 : (Try.prog.info? 47).map (fun i => (i.zero, i.size, i.bytes)) = some (some (.int .i16 0), 1, 2) := by kernel_rfl
set_option maxRecDepth 100000 in
theorem toInts_any (A : Option Addr) (n c : Nat) (zs : List Int) (w : World) (hl : zs.length = n) (hn : n ≤ 1048576) (hT : Ii w w.heap.size A zs) :
    Calls Try.prog 12 #[.slice A n c] w fun e w' => e = .returned (.slice (some ⟨w.heap.size, 0, none⟩) n n) ∧ MadeI w w' n zs := by
  obtain ⟨i0, hi, hz0, hz1, hz2⟩ := info_parts infoI16
  have hmk : ∀ wx, (Instr.makeSlice 22 (.int .i64 (n : Int)) (.int .i64 (n : Int))).run Try.prog wx = .ok (.slice (some ⟨wx.heap.size, 0, none⟩) n n) (wx.alloc (.cells (madeCells #[.int .i16 0] n) 47)) := fun wx => by
    have := run_make (P := Try.prog) wx 22 47 i0 _ Try.underlying22 hi hz0 .i64 .i64 n n (by omega) (Int.le_refl _) (by rw [hz2]; omega) (by omega)
    simpa [hz1, Value.cells] using this
  have hsz : (madeCells #[.int .i16 0] n).size = n := size_madeCells _ _
  have hth := there_new w (madeCells #[.int .i16 0] n) 47
  rw [hsz] at hth
  generalize madeCells #[.int .i16 0] n = row at *
  clear hsz hi hz0 hz1 hz2
  have Hth := Lib.hid hth; clear hth
  have Hl := Lib.hid hl; clear hl
  have HT := Lib.hid hT; clear hT
  go_enter Try.func12, Try.ntmps12
  go_wp2
  clear hmk
  go_loopw [4] (fun i wr => ∃ k : Nat, k ≤ n ∧ i = .int .i64 k ∧ wr.there w.heap.size 0 n ∧ (∀ i z, i < k → zs[i]? = some z → wr.cell? ⟨w.heap.size, i, none⟩ = some (.int .i16 z)) ∧ Below w.heap.size w wr ∧ w.heap.size < wr.heap.size) (fun i _ => n - (intOf i).toNat)
  case atStart => exact ⟨0, Nat.zero_le _, rfl, Hth.out, fun i p h => absurd h (by omega), (Below.refl _ _).alloc (Nat.le_refl _) _, by simp⟩
  case round =>
    obtain ⟨k, hk, rfl, hth, hr, hb, hs⟩ := hrel
    have Hr := Lib.hid hr; clear hr
    have Hh := Lib.hid hth; clear hth
    have Hb := Lib.hid hb; clear hb
    by_cases hlt : k < n
    · have hkl : k < zs.length := by have := Hl.out; omega
      obtain ⟨b, off, rfl, hbs, hc⟩ := HT.out (by omega)
      obtain ⟨f, hf⟩ : ∃ f, zs[k]? = some f := ⟨_, List.getElem?_eq_getElem hkl⟩
      have c0 := (World.cell?_of_block (a := ⟨b, off + k, none⟩) (Hb.out.block b hbs)).trans (hc k f hf)
      obtain ⟨e1, z1⟩ := Hh.out k hlt
      rw [Nat.zero_add] at e1 z1
      obtain ⟨v1, d1⟩ := Option.isSome_iff_exists.1 e1
      have hbz : b < wr.heap.size := Nat.lt_of_lt_of_le hbs Hb.out.size
      clear hc hkl e1
      have Hf := Lib.hid hf; clear hf
      go_wp2
      clear c0 d1 z1
      go_roundw
      case rel =>
        refine ⟨k + 1, by omega, by go_num, World.there_setCells Hh.out w.heap.size k [_], fun i g hi hg => ?_, below_setCells Hb.out (Nat.le_refl _) [_] k, by first | exact hs | (rw [size_setCells w.heap.size [_]]; exact hs) | (simp; exact hs)⟩
        rcases (by omega : i < k ∨ i = k) with h | rfl
        · exact World.rangeAt_setCells_apart (cs := [.int .i16 g]) (o' := i) (fun j v hj => by cases j with | zero => (simp at hj; subst hj; exact Hr.out i g h hg) | succ j => simp at hj) w.heap.size k [_] (Or.inr (Or.inl (by simp; omega))) 0 _ rfl
        · have hpq := Hf.out
          rw [hg] at hpq
          cases hpq
          exact World.rangeAt_setCells_same _ w.heap.size i [_] (fun j hj => by have := Hh.out (i + j) (by simp at hj; omega); rwa [Nat.zero_add] at this) 0 _ rfl
      case measure => simp [intOf]; omega
    · have hkn : k = n := by omega
      subst hkn
      clear HT
      go_wp2
      go_ret
      exact ⟨rfl, Hh.out, fun i p hp => Hr.out i p (by have := (List.getElem?_eq_some_iff.1 hp).1; have := Hl.out; omega) hp, hs, Hb.out⟩
set_option maxRecDepth 100000 in
theorem eqInts_same (A A' : Option Addr) (n c c' : Nat) (zs : List Int) (w : World) (hl : zs.length = n) (hn : n ≤ 1048576) {B B' : Nat} (hT : Ii w B A zs) (hT' : Ii w B' A' zs) :
    Calls Try.prog 15 #[.slice A n c, .slice A' n c'] w fun e w' => e = .returned (.bool true) ∧ Below w.heap.size w w' := by
  have Hl := Lib.hid hl; clear hl
  have HT := Lib.hid hT; clear hT
  have HT' := Lib.hid hT'; clear hT'
  go_enter Try.func15, Try.ntmps15
  go_wp2
  go_loopw [5] (fun i wr => ∃ k : Nat, k ≤ n ∧ i = .int .i64 k ∧ w.heap = wr.heap ∧ Below w.heap.size w wr) (fun i _ => n - (intOf i).toNat)
  case atStart => exact ⟨0, Nat.zero_le _, rfl, rfl, Below.refl _ _⟩
  case round =>
    obtain ⟨k, hk, rfl, hh, hb⟩ := hrel
    have Hb := Lib.hid hb; clear hb
    have Hh := Lib.hid hh; clear hh
    by_cases hlt : k < n
    · have hkl : k < zs.length := by have := Hl.out; omega
      obtain ⟨b, off, rfl, hbs, hc⟩ := HT.out (by omega)
      obtain ⟨b', off', rfl, hbs', hc'⟩ := HT'.out (by omega)
      obtain ⟨z, hz⟩ : ∃ z, zs[k]? = some z := ⟨_, List.getElem?_eq_getElem hkl⟩
      have c0 : wr.cell? ⟨b, off + k, none⟩ = some (.int .i16 z) := (World.cell?_of_block (w := w) (a := ⟨b, off + k, none⟩) (by rw [Hh.out])).trans (hc k z hz)
      have d0 : wr.cell? ⟨b', off' + k, none⟩ = some (.int .i16 z) := (World.cell?_of_block (w := w) (a := ⟨b', off' + k, none⟩) (by rw [Hh.out])).trans (hc' k z hz)
      clear hc hc' hkl hz
      have y0 : (0 : Int) ≤ (k : Int) := by omega
      have y1 : (k : Int) < (n : Int) := by omega
      go_wp2_with fail
      go_quiet (fail)
      clear c0 d0
      all_goals
        go_wp2
        go_roundw
        case rel => exact ⟨k + 1, by omega, by go_num, by first | exact Hh.out | (simp; exact Hh.out), by first | exact b_drewN Hb.out _ | exact Hb.out.drew | exact Hb.out.drew.drew | exact Hb.out⟩
        case measure => simp [intOf]; omega
    · have hkn : k = n := by omega
      subst hkn
      go_wp2
      go_ret
      exact ⟨rfl, Hb.out⟩
set_option maxRecDepth 100000 in
theorem markInts_any (A : Option Addr) (n c : Nat) (k0 : Int) (w : World) (hn : n ≤ 1048576) (hk : 0 ≤ k0 ∧ k0 ≤ 10000000) (hth : 0 < n → ∃ b, A = some ⟨b, 0, none⟩ ∧ w.there b 0 n) :
    Calls Try.prog 16 #[.slice A n c, .int .i64 k0] w fun e w' => e = .returned (.int .i64 (k0 + n)) ∧ MB A w w' ∧ (0 < n → ∃ b, A = some ⟨b, 0, none⟩ ∧ ∀ i : Nat, i < n → w'.cell? ⟨b, i, none⟩ = some (.int .i16 (IntKind.i16.wrap (k0 + i)))) := by
  have Hth := Lib.hid hth; clear hth
  go_enter Try.func16, Try.ntmps16
  go_wp2
  go_loopw [1, 5] (fun q i wr => ∃ k : Nat, k ≤ n ∧ q = .int .i64 (k0 + k) ∧ i = .int .i64 k ∧ MB A w wr ∧ (0 < n → ∃ b, A = some ⟨b, 0, none⟩ ∧ wr.there b 0 n ∧ ∀ i : Nat, i < k → wr.cell? ⟨b, i, none⟩ = some (.int .i16 (IntKind.i16.wrap (k0 + i))))) (fun _ i _ => n - (intOf i).toNat)
  case atStart =>
    refine ⟨0, Nat.zero_le _, by simp, rfl, MB.refl _ _, fun h0 => ?_⟩
    obtain ⟨b, rfl, ht⟩ := Hth.out h0
    exact ⟨b, rfl, ht, fun i hi => absurd hi (by omega)⟩
  case round =>
    obtain ⟨k, hkn, rfl, rfl, hm, hth2⟩ := hrel
    have Hm := Lib.hid hm; clear hm
    have Ht := Lib.hid hth2; clear hth2
    by_cases hlt : k < n
    · obtain ⟨b, rfl, ht, hcs⟩ := Ht.out (by omega)
      have c0 := ht k hlt
      rw [Nat.zero_add] at c0
      obtain ⟨c1, fz⟩ := c0
      obtain ⟨v, c0⟩ := Option.isSome_iff_exists.1 c1
      clear c1 Ht
      have Hth2 := Lib.hid ht; clear ht
      have Hcs := Lib.hid hcs; clear hcs
      go_wp2
      clear c0 fz
      go_roundw
      case rel =>
        refine ⟨k + 1, by omega, by go_num, by go_num, Hm.out.set k [_], fun _ => ⟨b, rfl, World.there_setCells Hth2.out b k [_], fun i hi => ?_⟩⟩
        rcases (by omega : i < k ∨ i = k) with h | rfl
        · exact World.rangeAt_setCells_apart (cs := [.int .i16 (IntKind.i16.wrap (k0 + i))]) (o' := i) (fun j v hj => by cases j with | zero => (simp at hj; subst hj; exact Hcs.out i h) | succ j => simp at hj) b k [_] (Or.inr (Or.inl (by simp; omega))) 0 _ rfl
        · exact World.rangeAt_setCells_same _ b i [_] (fun j hj => by have := Hth2.out (i + j) (by simp at hj; omega); rwa [Nat.zero_add] at this) 0 _ rfl
      case measure => simp [intOf]; omega
    · have hkn' : k = n := by omega
      subst hkn'
      go_wp2
      go_ret
      refine ⟨rfl, Hm.out, fun h0 => ?_⟩
      obtain ⟨b, h1, _, h2⟩ := Ht.out h0
      exact ⟨b, h1, h2⟩
section
variable {H : Type} {enc : TypeId × Value → H} {w : World} {base : Nat} {spare : Nat → Bool} {held : Bool}
theorem trod_i16x {P : Program} {t : TypeId} {fuel : Nat} {cs : List Value} {x : DataW H × List MemPlace} (ht : P.underlying t = some (.int .i16)) (h : DataW.trod enc P w base spare held fuel t cs = some x) :
    ∃ b, cs = [.int .i16 b] ∧ I16 b := by
  obtain ⟨x0, e0, _, g0⟩ := DataW.trod_int ht h
  exact ⟨x0, e0, by simpa [I16, Lit.wf, IntKind.min, IntKind.max, IntKind.signed, IntKind.bits] using g0⟩
theorem ints_in {A : Option Addr} {n c : Nat} {d : DataW H} {p : List MemPlace} (lt : ∀ x ∈ p, x.block < w.heap.size) (h : DataW.Trod enc Try.prog w 0 (fun _ => true) true 22 (.slice A n c) d p) : ∃ zs, IiIn w A n c zs := by
  obtain ⟨fuel, hf⟩ := h
  rcases open_slice Try.underlying22 hf with ⟨hcs, _⟩ | ⟨a, len, cap, m, k, D, Pl, hcs, _, hl, hm, hmm, hx, hi⟩
  · simp [Value.cells] at hcs
    obtain ⟨rfl, rfl, rfl⟩ := hcs
    exact ⟨[], rfl, Nat.le_refl _, Nat.zero_le _, fun h => absurd h (by simp), fun z hz => by cases hz⟩
  · simp [Value.cells] at hcs
    obtain ⟨rfl, rfl, rfl⟩ := hcs
    have hC : Try.prog.cellsOf 47 = 1 := by kernel_rfl
    rw [hC] at hi hx
    have hmn : n ≤ m := by rw [hmm]; simpa using hl
    obtain ⟨V, hV⟩ := choose_lt (α := Int) (n := n) (p := fun i f => I16 f ∧ w.cell? (a.add i) = some (.int .i16 f)) (fun i hin => by
      obtain ⟨cs', h1, h2⟩ := hi i (by omega)
      obtain ⟨q, rfl, hq⟩ := trod_i16x Try.underlying47 h2
      obtain ⟨_, h3, h4⟩ := World.cells?_some h1
      refine ⟨q, hq, ?_⟩
      have := h4 0 (by omega)
      simpa [Addr.add] using this)
    refine ⟨(List.range n).map V, by simp, hl, hm, ?_, ?_⟩
    · intro h0
      have hn : 0 < n := by simpa using h0
      obtain ⟨b, off, spot⟩ := a
      have hc0 := (hV 0 hn).2
      have hc0' : w.cell? ⟨b, off, spot⟩ = some (.int .i16 (V 0)) := by simpa [Addr.add] using hc0
      have hspot : spot = none := by simpa using World.cell?_spot hc0'
      subst hspot
      refine ⟨b, off, rfl, block_lt_of_cell hc0', ?_⟩
      intro i q hq
      obtain ⟨hil, e⟩ := List.getElem?_eq_some_iff.1 hq
      simp at hil e
      subst e
      have := (hV i hil).2
      rwa [Addr.add_mid] at this
    · intro q hq
      simp at hq
      obtain ⟨i, hin, rfl⟩ := hq
      exact (hV i hin).1
end
end Go.Proofs.Ytaodpopghacmaaa
