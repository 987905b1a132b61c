/-
  Slices of Tooth: how they lie, the laws' copy of them, their comparison, their marks, and what came in.
-/
import Derived.Test.YtndmkfmfphgckabBase
import Derived.Test.YtndmkfmfphgckabYh
namespace Go.Proofs.Ytndmkfmfphgckab
open Go.RowKit Go.ChangeShapes Go.WideShapes Go.Deep Go.Joins
set_option linter.unusedVariables false
set_option linter.unusedSimpArgs false
def Th.cells (p : Th) : List Value := [.float .f32 p.h, .float .f32 p.u, .float .f32 p.v, .int .i8 p.s]
def Th.wf (p : Th) : Prop := p.h < 4294967296 ∧ p.u < 4294967296 ∧ p.v < 4294967296 ∧ (-128 ≤ p.s ∧ p.s ≤ 127)
/-- Up to which NaN. -/
def Th.cn (p : Th) : Th := ⟨Proofs.Ytndmkfmfphgckab.cn p.h, Proofs.Ytndmkfmfphgckab.cn p.u, Proofs.Ytndmkfmfphgckab.cn p.v, p.s⟩
instance : Inhabited Th := ⟨⟨0, 0, 0, 0⟩⟩
/-- The slice of address A holds the ps, below block B. -/
def Th.L (w : World) (B : Nat) (A : Option Addr) (ps : List Th) : Prop :=
  0 < ps.length → ∃ b off, A = some ⟨b, off, none⟩ ∧ b < B ∧ ∀ i p, ps[i]? = some p → w.rangeAt b (off + i * 4) p.cells
theorem Th.L.below {w w' : World} {B : Nat} {A : Option Addr} {ps : List Th} (h : Th.L w B A ps) {B' : Nat} (hb : Below B' w w') (hB : B ≤ B') : Th.L w' B A ps := fun h0 => by
  obtain ⟨b, off, e, hlt, hc⟩ := h h0
  exact ⟨b, off, e, hlt, fun i p hp => rangeAt_of_block (hc i p hp) (hb.block b (Nat.lt_of_lt_of_le hlt hB))⟩
theorem Th.L.more {w : World} {B B' : Nat} {A : Option Addr} {ps : List Th} (h : Th.L w B A ps) (hB : B ≤ B') : Th.L w B' A ps := fun h0 => by
  obtain ⟨b, off, e, hlt, hc⟩ := h h0
  exact ⟨b, off, e, Nat.lt_of_lt_of_le hlt hB, hc⟩
theorem Th.L.keep {w w' : World} {A : Option Addr} {ps : List Th} (h : Th.L w w.heap.size A ps) (hb : Below w.heap.size w w') : Th.L w' w'.heap.size A ps := (h.below hb (Nat.le_refl _)).more hb.size
theorem Th.L.mb {w w' : World} {A A' : Option Addr} {ps : List Th} (h : Th.L w w.heap.size A ps) (hm : MB A' w w') (hd : ∀ a a', A = some a → A' = some a' → a'.block ≠ a.block) : Th.L w' w'.heap.size A ps := fun h0 => by
  obtain ⟨b, off, e, hlt, hc⟩ := h h0
  exact ⟨b, off, e, by rw [hm.1]; exact hlt, fun i p hp => rangeAt_of_block (hc i p hp) (hm.2.1 b (fun a' ha' => hd ⟨b, off, none⟩ a' e ha'))⟩
theorem Th.at {w : World} {b o : Nat} {p : Th} (h : w.rangeAt b o p.cells) :
    w.cell? ⟨b, o, none⟩ = some (.float .f32 p.h) ∧ w.cell? ⟨b, o + 1, none⟩ = some (.float .f32 p.u) ∧ w.cell? ⟨b, o + 2, none⟩ = some (.float .f32 p.v) ∧ w.cell? ⟨b, o + 3, none⟩ = some (.int .i8 p.s) :=
  ⟨h 0 _ rfl, h 1 _ rfl, h 2 _ rfl, h 3 _ rfl⟩
def Th.In (w : World) (A : Option Addr) (n c : Nat) (ps : List Th) : Prop := ps.length = n ∧ n ≤ c ∧ c ≤ maxLen ∧ Th.L w w.heap.size A ps ∧ ∀ p ∈ ps, p.wf
section
variable {H : Type} {enc : TypeId × Value → H} {w : World} {base : Nat} {spare : Nat → Bool} {held : Bool}
theorem Th.len_of {α : Type} {l : List α} (h : l.length = 4) : ∃ v0 v1 v2 v3, l = [v0, v1, v2, v3] := by
  match l, h with
  | [v0, v1, v2, v3], _ => exact ⟨v0, v1, v2, v3, rfl⟩
theorem Th.cells_in {fuel : Nat} {cs : List Value} {x : DataW H × List MemPlace} (h : DataW.trod enc Try.prog w base spare held fuel 53 cs = some x) : ∃ p : Th, cs = p.cells ∧ p.wf := by
  obtain ⟨X, rfl, a, b, c, d⟩ := tooth_cells h
  exact ⟨X, rfl, by simpa [Lit.wf] using a, by simpa [Lit.wf] using b, by simpa [Lit.wf] using c, bounds_i8 d⟩
theorem Th.in {A : Option Addr} {n c : Nat} {d : DataW H} {p : List MemPlace} (lt : ∀ x ∈ p, x.block < w.heap.size) (h : DataW.Trod enc Try.prog w 0 (fun _ => true) true 23 (.slice A n c) d p) : ∃ ps, Th.In w A n c ps := by
  obtain ⟨fuel, hf⟩ := h
  rcases open_slice Try.underlying23 hf with ⟨hcs, _⟩ | ⟨a, len, cap, m, k, D, Pl, hcs, _, hl, hm, hmm, hx, hi⟩
  · simp [Value.cells] at hcs
    obtain ⟨rfl, rfl, rfl⟩ := hcs
    exact ⟨[], rfl, Nat.le_refl _, Nat.zero_le _, fun h => absurd h (by simp), fun p hp => by cases hp⟩
  · simp [Value.cells] at hcs
    obtain ⟨rfl, rfl, rfl⟩ := hcs
    have hC : Try.prog.cellsOf 53 = 4 := by kernel_rfl
    rw [hC] at hi hx
    have hmn : n ≤ m := by rw [hmm]; simpa using hl
    obtain ⟨V, hV⟩ := choose_lt (α := Th) (n := n) (p := fun i p => p.wf ∧ ∀ j v, p.cells[j]? = some v → w.cell? ((a.add (i * 4)).add j) = some v) (fun i hin => by
      obtain ⟨cs', h1, h2⟩ := hi i (by omega)
      obtain ⟨q, rfl, hq⟩ := Th.cells_in h2
      obtain ⟨_, h3, h4⟩ := World.cells?_some h1
      refine ⟨q, hq, fun j v hv => ?_⟩
      have hj : j < 4 := by
        have := (List.getElem?_eq_some_iff.1 hv).1
        simpa [Th.cells] using this
      rw [h4 j hj]
      exact hv)
    refine ⟨(List.range n).map V, by simp, hl, hm, ?_, ?_⟩
    · intro h0
      have hn : 0 < n := by simpa using h0
      obtain ⟨b, off, spot⟩ := a
      have hc0 := (hV 0 hn).2 0 _ rfl
      have hc0' : w.cell? ⟨b, off, spot⟩ = some (.float .f32 (V 0).h) := by simpa [Addr.add] using hc0
      have hspot : spot = none := by simpa using World.cell?_spot hc0'
      subst hspot
      refine ⟨b, off, rfl, ?_, ?_⟩
      · have := block_lt_of_cell hc0'
        exact this
      · intro i q hq j v hv
        obtain ⟨hil, e⟩ := List.getElem?_eq_some_iff.1 hq
        simp at hil e
        subst e
        have := (hV i hil).2 j v hv
        rwa [Addr.add_mid, Addr.add_mid] at this
    · intro q hq
      simp at hq
      obtain ⟨i, hin, rfl⟩ := hq
      exact (hV i hin).1
end
theorem Th.sz_any (A : Option Addr) (n c : Nat) (L : Int) (w : World) (hn : n ≤ maxLen) (h0 : 0 ≤ L) (h1 : L ≤ 1048576) :
    Calls Try.prog 5 #[.slice A n c, .int .i64 L] w fun e w' => e = .returned (.int .i64 (if L < n then -1 else L - n)) ∧ w = w' := by
  unfold maxLen at hn
  by_cases h : L < n
  · rw [if_pos h]
    go_enter Try.func5, Try.ntmps5
    go_wp2
    go_ret
    exact ⟨rfl, rfl⟩
  · rw [if_neg h]
    go_enter Try.func5, Try.ntmps5
    go_wp2
    go_ret
    exact ⟨rfl, rfl⟩
theorem Th.to1_any (p : Th) (w : World) : Calls Try.prog 19 #[.agg #[.float .f32 p.h, .float .f32 p.u, .float .f32 p.v, .int .i8 p.s]] w (RV (.agg #[.float .f32 p.h, .float .f32 p.u, .float .f32 p.v, .int .i8 p.s]) w) := toTh_any p w
theorem Th.info : (Try.prog.info? 46).map (fun i => (i.zero, i.size, i.bytes)) = some (some (.agg #[.float .f32 0, .float .f32 0, .float .f32 0, .int .i8 0]), 4, 16) := by kernel_rfl
/-- A new slice that holds the ps: it is the call's own, and may be written. -/
def Th.Made (w w' : World) (n : Nat) (ps : List Th) : Prop :=
  w'.there w.heap.size 0 (n * 4) ∧ (∀ i p, ps[i]? = some p → w'.rangeAt w.heap.size (i * 4) p.cells) ∧ w.heap.size < w'.heap.size ∧ Below w.heap.size w w'
theorem Th.Made.l {w w' : World} {n : Nat} {ps : List Th} (h : Th.Made w w' n ps) : Th.L w' w'.heap.size (some ⟨w.heap.size, 0, none⟩) ps := fun _ =>
  ⟨w.heap.size, 0, rfl, h.2.2.1, fun i p hp => by rw [Nat.zero_add]; exact h.2.1 i p hp⟩
theorem Th.one (p : Th) : (#[.float .f32 p.h, .float .f32 p.u, .float .f32 p.v, .int .i8 p.s] : Array Value).all (·.oneCell') = true := by simp [Value.oneCell']
theorem Th.isz (p : Th) : (Try.prog.info? 46).map (·.size) = some (#[.float .f32 p.h, .float .f32 p.u, .float .f32 p.v, .int .i8 p.s] : Array Value).size := by
  obtain ⟨i0, hi, hz0, hz1, hz2⟩ := info_parts Th.info
  rw [hi, Option.map_some, hz1]
  rfl
theorem Th.thereN {w : World} {b n k : Nat} (h : w.there b 0 (n * 4)) (hk : k < n) : w.there b (k * 4) 4 := fun j hj => by
  have := h (k * 4 + j) (by omega)
  rwa [Nat.zero_add] at this
set_option maxRecDepth 100000 in
set_option maxHeartbeats 1000000 in
theorem Th.to_any (A : Option Addr) (n c : Nat) (ps : List Th) (w : World) (hl : ps.length = n) (hn : n ≤ 1048576) (hT : Th.L w w.heap.size A ps) :
    Calls Try.prog 8 #[.slice A n c] w fun e w' => e = .returned (.slice (some ⟨w.heap.size, 0, none⟩) n n) ∧ Th.Made w w' n ps := by
  obtain ⟨i0, hi, hz0, hz1, hz2⟩ := info_parts Th.info
  have hmk : ∀ wx, (Instr.makeSlice 32 (.int .i64 (n : Int)) (.int .i64 (n : Int))).run Try.prog wx = .ok (.slice (some ⟨wx.heap.size, 0, none⟩) n n) (wx.alloc (.cells (madeCells #[.float .f32 0, .float .f32 0, .float .f32 0, .int .i8 0] (n * 4)) 46)) := fun wx => by
    have := run_make (P := Try.prog) wx 32 46 i0 _ Try.underlying32 hi hz0 .i64 .i64 n n (by omega) (Int.le_refl _) (by rw [hz2]; omega) (by omega)
    simpa [hz1, Value.cells] using this
  have hsz : (madeCells #[.float .f32 0, .float .f32 0, .float .f32 0, .int .i8 0] (n * 4)).size = n * 4 := size_madeCells _ _
  have hth := there_new w (madeCells #[.float .f32 0, .float .f32 0, .float .f32 0, .int .i8 0] (n * 4)) 46
  rw [hsz] at hth
  generalize madeCells #[.float .f32 0, .float .f32 0, .float .f32 0, .int .i8 0] (n * 4) = row at *
  clear hsz hi hz0 hz1 hz2
  have Hth := Lib.hid hth; clear hth
  have Hl := Lib.hid hl; clear hl
  have HT := Lib.hid hT; clear hT
  go_enter Try.func8, Try.ntmps8
  go_wp2
  clear hmk
  go_loopw [4] (fun i wr => ∃ k : Nat, k ≤ n ∧ i = .int .i64 k ∧ wr.there w.heap.size 0 (n * 4) ∧ (∀ i p, i < k → ps[i]? = some p → wr.rangeAt w.heap.size (i * 4) p.cells) ∧ Below w.heap.size w wr ∧ w.heap.size < wr.heap.size) (fun i _ => n - (intOf i).toNat)
  case atStart => exact ⟨0, Nat.zero_le _, rfl, Hth.out, fun i p h => absurd h (by omega), (Below.refl _ _).alloc (Nat.le_refl _) _, by simp⟩
  case round =>
    obtain ⟨k, hk, rfl, hth, hr, hb, hs⟩ := hrel
    have Hr := Lib.hid hr; clear hr
    have Hh := Lib.hid hth; clear hth
    have Hb := Lib.hid hb; clear hb
    by_cases hlt : k < n
    · have hkl : k < ps.length := by have := Hl.out; omega
      obtain ⟨b, off, rfl, hbs, hc⟩ := HT.out (by omega)
      obtain ⟨p, hp⟩ : ∃ p, ps[k]? = some p := ⟨_, List.getElem?_eq_getElem hkl⟩
      have hrg := rangeAt_of_block (hc k p hp) (Hb.out.block b hbs)
      obtain ⟨c0, c1, c2, c3⟩ := Th.at hrg
      clear hc hkl hrg
      have Hp := Lib.hid hp; clear hp
      go_wp2_with (first | (go_at_call 19; refine (Th.to1_any p _).mono ?_; rintro e w' ⟨rfl, hb2⟩; have hth2 := Lib.hid (Th.thereN (there_of_block Hh.out (hb2.block w.heap.size hs)) hlt)) | (refine wpList_store_mid rfl 46 (.tmp 21) (.tmp 20) rfl w.heap.size (k * 4) #[.float .f32 p.h, .float .f32 p.u, .float .f32 p.v, .int .i8 p.s] rfl rfl ?_ (Th.isz p) (Th.one p) ?_; exact hth2.out))
      clear c0 c1 c2 c3
      have Hth3 : Hid (w'.there w.heap.size 0 (n * 4)) := there_of_block Hh.out (hb2.block w.heap.size hs)
      have Hr3 : Hid (∀ (i : Nat) (p : Th), i < k → ps[i]? = some p → w'.rangeAt w.heap.size (i * 4) p.cells) := fun i p hi hp => rangeAt_of_block (Hr.out i p hi hp) (hb2.block w.heap.size hs)
      have hs3 : w.heap.size < w'.heap.size := Nat.lt_of_lt_of_le hs hb2.size
      have Hb3 : Hid (Below w.heap.size w w') := Hb.out.trans (hb2.mono (Nat.le_of_lt hs))
      go_roundw
      case rel =>
        refine ⟨k + 1, by omega, by go_num, World.there_setCells Hth3.out _ _ _, fun i q hi hq => ?_, below_setCells Hb3.out (Nat.le_refl _) _ _, by rw [size_setCells]; exact hs3⟩
        rcases (by omega : i < k ∨ i = k) with h | rfl
        · exact World.rangeAt_setCells_apart (Hr3.out i q h hq) _ _ _ (Or.inr (Or.inl (by simp [Th.cells]; omega)))
        · have hpq := Hp.out
          rw [hq] at hpq
          cases hpq
          exact World.rangeAt_setCells_same _ _ _ _ hth2.out
      case measure => simp [intOf]; omega
    · have hkn : k = n := by omega
      subst hkn
      clear HT
      go_wp2
      go_ret
      exact ⟨rfl, Hh.out, fun i p hp => Hr.out i p (by have := (List.getElem?_eq_some_iff.1 hp).1; have := Hl.out; omega) hp, hs, Hb.out⟩
theorem Th.cn_iff {p q : Th} (h : p.cn = q.cn) : Proofs.Ytndmkfmfphgckab.cn p.h = Proofs.Ytndmkfmfphgckab.cn q.h ∧ Proofs.Ytndmkfmfphgckab.cn p.u = Proofs.Ytndmkfmfphgckab.cn q.u ∧ Proofs.Ytndmkfmfphgckab.cn p.v = Proofs.Ytndmkfmfphgckab.cn q.v ∧ p.s = q.s := by
  have h' := h
  unfold Th.cn at h'
  injection h' with e0 e1 e2 e3
  exact ⟨e0, e1, e2, e3⟩
theorem Th.eq1_any (p q : Th) (h : p.cn = q.cn) (w : World) : Calls Try.prog 24 #[.agg #[.float .f32 p.h, .float .f32 p.u, .float .f32 p.v, .int .i8 p.s], .agg #[.float .f32 q.h, .float .f32 q.u, .float .f32 q.v, .int .i8 q.s]] w (RV (.bool true) w) := eqTh_same p q h w
set_option maxRecDepth 100000 in
set_option maxHeartbeats 2000000 in
theorem Th.eq_any (A A' : Option Addr) (n c c' : Nat) (ps qs : List Th) (w : World) (hl : ps.length = n) (he : ps.map Th.cn = qs.map Th.cn) (hn : n ≤ 1048576) (hT : Th.L w w.heap.size A ps) (hT' : Th.L w w.heap.size A' qs) :
    Calls Try.prog 12 #[.slice A n c, .slice A' n c'] w fun e w' => e = .returned (.bool true) ∧ Below w.heap.size w w' := by
  have hl' : qs.length = n := by have := congrArg List.length he; simp at this; omega
  have Hl := Lib.hid hl; clear hl
  have Hl' := Lib.hid hl'; clear hl'
  have HT := Lib.hid hT; clear hT
  have HT' := Lib.hid hT'; clear hT'
  have He := Lib.hid he; clear he
  go_enter Try.func12, Try.ntmps12
  go_wp2
  go_loopw [5] (fun i wr => ∃ k : Nat, k ≤ n ∧ i = .int .i64 k ∧ Below w.heap.size w wr) (fun i _ => n - (intOf i).toNat)
  case atStart => exact ⟨0, Nat.zero_le _, rfl, Below.refl _ _⟩
  case round =>
    obtain ⟨k, hk, rfl, hb⟩ := hrel
    have Hb := Lib.hid hb; clear hb
    by_cases hlt : k < n
    · have hkl : k < ps.length := by have := Hl.out; omega
      have hkl' : k < qs.length := by have := Hl'.out; omega
      obtain ⟨b, off, rfl, hbs, hc⟩ := HT.out (by omega)
      obtain ⟨b', off', rfl, hbs', hc'⟩ := HT'.out (by omega)
      obtain ⟨p, hp⟩ : ∃ p, ps[k]? = some p := ⟨_, List.getElem?_eq_getElem hkl⟩
      obtain ⟨q, hq⟩ : ∃ q, qs[k]? = some q := ⟨_, List.getElem?_eq_getElem hkl'⟩
      have hpq : p.cn = q.cn := by
        have h1 := congrArg (fun l => l[k]?) He.out
        simp only [List.getElem?_map, hp, hq, Option.map_some, Option.some.injEq] at h1
        exact h1
      have Hpq := Lib.hid hpq; clear hpq
      obtain ⟨c0, c1, c2, c3⟩ := Th.at (rangeAt_of_block (hc k p hp) (Hb.out.block b hbs))
      obtain ⟨d0, d1, d2, d3⟩ := Th.at (rangeAt_of_block (hc' k q hq) (Hb.out.block b' hbs'))
      clear hc hc' hkl hkl' hp hq
      go_wp2_with fail
      go_still_tail 8, (by kernel_rfl)
      change wpList _ _ _ _ _ wr.drew
      clear c0 c1 c2 c3 d0 d1 d2 d3
      go_wp2_with (go_at_call 24; refine (Th.eq1_any p q Hpq.out _).mono ?_; rintro e w' ⟨rfl, hb2⟩)
      have Hb2 : Below w.heap.size w w' := (Hb.out.drew).trans (hb2.mono Hb.out.size)
      go_roundw
      case rel => exact ⟨k + 1, by omega, by go_num, Hb2⟩
      case measure => simp [intOf]; omega
    · have hkn : k = n := by omega
      subst hkn
      go_wp2
      go_ret
      exact ⟨rfl, Hb.out⟩
set_option maxRecDepth 100000 in
set_option maxHeartbeats 2000000 in
theorem Th.mark_any (b : Nat) (n c : Nat) (k0 : Int) (w : World) (hn : n ≤ 1048576) (h0 : 0 ≤ k0) (h1 : k0 ≤ 10000000) (ht : w.there b 0 (n * 4)) :
    Calls Try.prog 14 #[.slice (some ⟨b, 0, none⟩) n c, .int .i64 k0] w fun e w' => e = .returned (.int .i64 (k0 + 4 * n)) ∧ MB (some ⟨b, 0, none⟩) w w' := by
  have Ht0 := Lib.hid ht; clear ht
  go_enter Try.func14, Try.ntmps14
  go_wp2
  go_loopw [1, 5, 6] (fun q i j6 wr => ∃ k : Nat, k ≤ n ∧ q = .int .i64 (k0 + 4 * k) ∧ i = .int .i64 k ∧ MB (some ⟨b, 0, none⟩) w wr ∧ wr.there b 0 (n * 4)) (fun _ i _ _ => n - (intOf i).toNat)
  case atStart => exact ⟨0, Nat.zero_le _, by simp, rfl, MB.refl _ _, Ht0.out⟩
  case round =>
    obtain ⟨k, hkn, rfl, rfl, hm, hth2⟩ := hrel
    have Hm := Lib.hid hm; clear hm
    have Ht := Lib.hid hth2; clear hth2
    by_cases hlt : k < n
    · obtain ⟨e0, z0⟩ := Ht.out (k * 4) (by omega)
      rw [Nat.zero_add] at e0 z0
      obtain ⟨v0, c0⟩ := Option.isSome_iff_exists.1 e0
      clear e0
      go_wp2
      clear c0 z0
      go_loopw [1, 6] (fun q j wr2 => ∃ m : Nat, m ≤ 2 ∧ j = .int .i64 m ∧ q = .int .i64 (k0 + 4 * k + 1 + m) ∧ MB (some ⟨b, 0, none⟩) w wr2 ∧ wr2.there b 0 (n * 4)) (fun _ j _ => 2 - (intOf j).toNat)
      case atStart => exact ⟨0, Nat.zero_le _, rfl, by simp, Hm.out.cell (k * 4) _, there_cell Ht.out b (k * 4) _⟩
      case round =>
        obtain ⟨m, hm2, rfl, rfl, hm, hth2⟩ := hrel
        have Hm3 := Lib.hid hm; clear hm
        have Ht3 := Lib.hid hth2; clear hth2
        by_cases hlm : m < 2
        · obtain ⟨e1, z1⟩ := Ht3.out (k * 4 + 1 + m) (by omega)
          rw [Nat.zero_add] at e1 z1
          obtain ⟨v1, c1⟩ := Option.isSome_iff_exists.1 e1
          clear e1
          rcases (by omega : m = 0 ∨ m = 1) with rfl | rfl
          all_goals
            go_wp2
            clear c1 z1
            go_roundw
            case rel => exact ⟨_, hlm, by first | rfl | go_num, by first | rfl | go_num, Hm3.out.cell _ _, there_cell Ht3.out b _ _⟩
            case measure => simp [intOf]
        · obtain rfl : m = 2 := by omega
          obtain ⟨e1, z1⟩ := Ht3.out (k * 4 + 3) (by omega)
          rw [Nat.zero_add] at e1 z1
          obtain ⟨v1, c1⟩ := Option.isSome_iff_exists.1 e1
          clear e1
          go_wp2
          clear c1 z1
          go_roundw
          case rel => exact ⟨k + 1, by omega, by go_num, by go_num, Hm3.out.cell _ _, there_cell Ht3.out b _ _⟩
          case measure => simp [intOf]; omega
    · have hkn' : k = n := by omega
      subst hkn'
      go_wp2
      go_ret
      exact ⟨rfl, Hm.out⟩
end Go.Proofs.Ytndmkfmfphgckab
