/-
  Slices of Stone: how they lie, the laws' copy of them, their comparison, their marks, and what came in.
-/
import Derived.Test.YtagjkagfnfonpabBase
import Derived.Test.YtagjkagfnfonpabStL
namespace Go.Proofs.Ytagjkagfnfonpab
open Go.RowKit Go.ChangeShapes Go.WideShapes Go.Deep Go.Joins
set_option linter.unusedVariables false
set_option linter.unusedSimpArgs false
def Sn.In (w : World) (A : Option Addr) (n c : Nat) (ps : List Sn) : Prop := ps.length = n ∧ n ≤ c ∧ c ≤ maxLen ∧ Sn.L w w.heap.size A ps ∧ ∀ p ∈ ps, p.wf
section
variable {H : Type} {enc : TypeId × Value → H} {w : World} {base : Nat} {spare : Nat → Bool} {held : Bool}
theorem Sn.len_of {α : Type} {l : List α} (h : l.length = 4) : ∃ v0 v1 v2 v3, l = [v0, v1, v2, v3] := by
  match l, h with
  | [v0, v1, v2, v3], _ => exact ⟨v0, v1, v2, v3, rfl⟩
theorem Sn.cells_in {fuel : Nat} {cs : List Value} {x : DataW H × List MemPlace} (h : DataW.trod enc Try.prog w base spare held fuel 24 cs = some x) : ∃ p : Sn, cs = p.cells ∧ p.wf := by
  obtain ⟨xs, n, _, _, hlen, hxl, hf⟩ := DataW.trod_struct Try.underlying24 h
  have hC : Try.prog.cellsOf 24 = 4 := by kernel_rfl
  have q_f32 : Try.prog.cellsOf 22 = 1 := by kernel_rfl
  rw [hC] at hlen
  obtain ⟨v0, v1, v2, v3, rfl⟩ := Sn.len_of hlen
  obtain ⟨y0, y1, y2, y3, rfl⟩ := Sn.len_of (show xs.length = 4 from hxl)
  have f0 : DataW.trod enc Try.prog w base spare held n 22 (([v0, v1, v2, v3].drop 0).take (Try.prog.cellsOf 22)) = some y0 := hf 0 _ rfl
  have f1 : DataW.trod enc Try.prog w base spare held n 22 (([v0, v1, v2, v3].drop 1).take (Try.prog.cellsOf 22)) = some y1 := hf 1 _ rfl
  have f2 : DataW.trod enc Try.prog w base spare held n 22 (([v0, v1, v2, v3].drop 2).take (Try.prog.cellsOf 22)) = some y2 := hf 2 _ rfl
  have f3 : DataW.trod enc Try.prog w base spare held n 22 (([v0, v1, v2, v3].drop 3).take (Try.prog.cellsOf 22)) = some y3 := hf 3 _ rfl
  rw [q_f32] at f0
  obtain ⟨x0, e0, g0⟩ := trod_f32x Try.underlying22 f0
  rw [q_f32] at f1
  obtain ⟨x1, e1, g1⟩ := trod_f32x Try.underlying22 f1
  rw [q_f32] at f2
  obtain ⟨x2, e2, g2⟩ := trod_f32x Try.underlying22 f2
  rw [q_f32] at f3
  obtain ⟨x3, e3, g3⟩ := trod_f32x Try.underlying22 f3
  obtain rfl : v0 = .float .f32 x0 := List.head_eq_of_cons_eq e0
  obtain rfl : v1 = .float .f32 x1 := List.head_eq_of_cons_eq e1
  obtain rfl : v2 = .float .f32 x2 := List.head_eq_of_cons_eq e2
  obtain rfl : v3 = .float .f32 x3 := List.head_eq_of_cons_eq e3
  exact ⟨⟨x0, x1, x2, x3⟩, rfl, by simpa [Lit.wf] using g0, by simpa [Lit.wf] using g1, by simpa [Lit.wf] using g2, by simpa [Lit.wf] using g3⟩
theorem Sn.in {A : Option Addr} {n c : Nat} {d : DataW H} {p : List MemPlace} (lt : ∀ x ∈ p, x.block < w.heap.size) (h : DataW.Trod enc Try.prog w 0 (fun _ => true) true 38 (.slice A n c) d p) : ∃ ps, Sn.In w A n c ps := by
  obtain ⟨fuel, hf⟩ := h
  rcases open_slice Try.underlying38 hf with ⟨hcs, _⟩ | ⟨a, len, cap, m, k, D, Pl, hcs, _, hl, hm, hmm, hx, hi⟩
  · simp [Value.cells] at hcs
    obtain ⟨rfl, rfl, rfl⟩ := hcs
    exact ⟨[], rfl, Nat.le_refl _, Nat.zero_le _, fun h => absurd h (by simp), fun p hp => by cases hp⟩
  · simp [Value.cells] at hcs
    obtain ⟨rfl, rfl, rfl⟩ := hcs
    have hC : Try.prog.cellsOf 24 = 4 := by kernel_rfl
    rw [hC] at hi hx
    have hmn : n ≤ m := by rw [hmm]; simpa using hl
    obtain ⟨V, hV⟩ := choose_lt (α := Sn) (n := n) (p := fun i p => p.wf ∧ ∀ j v, p.cells[j]? = some v → w.cell? ((a.add (i * 4)).add j) = some v) (fun i hin => by
      obtain ⟨cs', h1, h2⟩ := hi i (by omega)
      obtain ⟨q, rfl, hq⟩ := Sn.cells_in h2
      obtain ⟨_, h3, h4⟩ := World.cells?_some h1
      refine ⟨q, hq, fun j v hv => ?_⟩
      have hj : j < 4 := by
        have := (List.getElem?_eq_some_iff.1 hv).1
        simpa [Sn.cells] using this
      rw [h4 j hj]
      exact hv)
    refine ⟨(List.range n).map V, by simp, hl, hm, ?_, ?_⟩
    · intro h0
      have hn : 0 < n := by simpa using h0
      obtain ⟨b, off, spot⟩ := a
      have hc0 := (hV 0 hn).2 0 _ rfl
      have hc0' : w.cell? ⟨b, off, spot⟩ = some (.float .f32 (V 0).d) := by simpa [Addr.add] using hc0
      have hspot : spot = none := by simpa using World.cell?_spot hc0'
      subst hspot
      refine ⟨b, off, rfl, ?_, ?_⟩
      · have := block_lt_of_cell hc0'
        exact this
      · intro i q hq j v hv
        obtain ⟨hil, e⟩ := List.getElem?_eq_some_iff.1 hq
        simp at hil e
        subst e
        have := (hV i hil).2 j v hv
        rwa [Addr.add_mid, Addr.add_mid] at this
    · intro q hq
      simp at hq
      obtain ⟨i, hin, rfl⟩ := hq
      exact (hV i hin).1
end
theorem Sn.sz_any (A : Option Addr) (n c : Nat) (L : Int) (w : World) (hn : n ≤ maxLen) (h0 : 0 ≤ L) (h1 : L ≤ 1048576) :
    Calls Try.prog 17 #[.slice A n c, .int .i64 L] w fun e w' => e = .returned (.int .i64 (if L < n then -1 else L - n)) ∧ w = w' := by
  unfold maxLen at hn
  by_cases h : L < n
  · rw [if_pos h]
    go_enter Try.func17, Try.ntmps17
    go_wp2
    go_ret
    exact ⟨rfl, rfl⟩
  · rw [if_neg h]
    go_enter Try.func17, Try.ntmps17
    go_wp2
    go_ret
    exact ⟨rfl, rfl⟩
theorem Sn.to1_any (p : Sn) (w : World) : Calls Try.prog 8 #[.agg #[.float .f32 p.d, .float .f32 p.r, .float .f32 p.b, .float .f32 p.g]] w (RV (.agg #[.float .f32 p.d, .float .f32 p.r, .float .f32 p.b, .float .f32 p.g]) w) := by
  go_enter Try.func8, Try.ntmps8
  go_wp2
  refine bodyPost_ret (v := .agg #[.float .f32 p.d, .float .f32 p.r, .float .f32 p.b, .float .f32 p.g]) (by simp [results, Try.results8, go_sem]) rfl ⟨rfl, ?_⟩
  (repeat (first | exact Below.refl _ _ | refine b_drewN ?_ _ | refine b_drew ?_ | refine b_alloc ?_ _ | refine b_then ?_ (by assumption)))
theorem Sn.info : (Try.prog.info? 26).map (fun i => (i.zero, i.size, i.bytes)) = some (some (.agg #[.float .f32 0, .float .f32 0, .float .f32 0, .float .f32 0]), 4, 16) := by kernel_rfl
/-- A new slice that holds the ps: it is the call's own, and may be written. -/
def Sn.Made (w w' : World) (n : Nat) (ps : List Sn) : Prop :=
  w'.there w.heap.size 0 (n * 4) ∧ (∀ i p, ps[i]? = some p → w'.rangeAt w.heap.size (i * 4) p.cells) ∧ w.heap.size < w'.heap.size ∧ Below w.heap.size w w'
theorem Sn.Made.l {w w' : World} {n : Nat} {ps : List Sn} (h : Sn.Made w w' n ps) : Sn.L w' w'.heap.size (some ⟨w.heap.size, 0, none⟩) ps := fun _ =>
  ⟨w.heap.size, 0, rfl, h.2.2.1, fun i p hp => by rw [Nat.zero_add]; exact h.2.1 i p hp⟩
theorem Sn.one (p : Sn) : (#[.float .f32 p.d, .float .f32 p.r, .float .f32 p.b, .float .f32 p.g] : Array Value).all (·.oneCell') = true := by simp [Value.oneCell']
theorem Sn.isz (p : Sn) : (Try.prog.info? 26).map (·.size) = some (#[.float .f32 p.d, .float .f32 p.r, .float .f32 p.b, .float .f32 p.g] : Array Value).size := by
  obtain ⟨i0, hi, hz0, hz1, hz2⟩ := info_parts Sn.info
  rw [hi, Option.map_some, hz1]
  rfl
theorem Sn.thereN {w : World} {b n k : Nat} (h : w.there b 0 (n * 4)) (hk : k < n) : w.there b (k * 4) 4 := fun j hj => by
  have := h (k * 4 + j) (by omega)
  rwa [Nat.zero_add] at this
set_option maxRecDepth 100000 in
set_option maxHeartbeats 1000000 in
theorem Sn.to_any (A : Option Addr) (n c : Nat) (ps : List Sn) (w : World) (hl : ps.length = n) (hn : n ≤ 1048576) (hT : Sn.L w w.heap.size A ps) :
    Calls Try.prog 19 #[.slice A n c] w fun e w' => e = .returned (.slice (some ⟨w.heap.size, 0, none⟩) n n) ∧ Sn.Made w w' n ps := by
  obtain ⟨i0, hi, hz0, hz1, hz2⟩ := info_parts Sn.info
  have hmk : ∀ wx, (Instr.makeSlice 42 (.int .i64 (n : Int)) (.int .i64 (n : Int))).run Try.prog wx = .ok (.slice (some ⟨wx.heap.size, 0, none⟩) n n) (wx.alloc (.cells (madeCells #[.float .f32 0, .float .f32 0, .float .f32 0, .float .f32 0] (n * 4)) 26)) := fun wx => by
    have := run_make (P := Try.prog) wx 42 26 i0 _ Try.underlying42 hi hz0 .i64 .i64 n n (by omega) (Int.le_refl _) (by rw [hz2]; omega) (by omega)
    simpa [hz1, Value.cells] using this
  have hsz : (madeCells #[.float .f32 0, .float .f32 0, .float .f32 0, .float .f32 0] (n * 4)).size = n * 4 := size_madeCells _ _
  have hth := there_new w (madeCells #[.float .f32 0, .float .f32 0, .float .f32 0, .float .f32 0] (n * 4)) 26
  rw [hsz] at hth
  generalize madeCells #[.float .f32 0, .float .f32 0, .float .f32 0, .float .f32 0] (n * 4) = row at *
  clear hsz hi hz0 hz1 hz2
  have Hth := Lib.hid hth; clear hth
  have Hl := Lib.hid hl; clear hl
  have HT := Lib.hid hT; clear hT
  go_enter Try.func19, Try.ntmps19
  go_wp2
  clear hmk
  go_loopw [4] (fun i wr => ∃ k : Nat, k ≤ n ∧ i = .int .i64 k ∧ wr.there w.heap.size 0 (n * 4) ∧ (∀ i p, i < k → ps[i]? = some p → wr.rangeAt w.heap.size (i * 4) p.cells) ∧ Below w.heap.size w wr ∧ w.heap.size < wr.heap.size) (fun i _ => n - (intOf i).toNat)
  case atStart => exact ⟨0, Nat.zero_le _, rfl, Hth.out, fun i p h => absurd h (by omega), (Below.refl _ _).alloc (Nat.le_refl _) _, by simp⟩
  case round =>
    obtain ⟨k, hk, rfl, hth, hr, hb, hs⟩ := hrel
    have Hr := Lib.hid hr; clear hr
    have Hh := Lib.hid hth; clear hth
    have Hb := Lib.hid hb; clear hb
    by_cases hlt : k < n
    · have hkl : k < ps.length := by have := Hl.out; omega
      obtain ⟨b, off, rfl, hbs, hc⟩ := HT.out (by omega)
      obtain ⟨p, hp⟩ : ∃ p, ps[k]? = some p := ⟨_, List.getElem?_eq_getElem hkl⟩
      have hrg := rangeAt_of_block (hc k p hp) (Hb.out.block b hbs)
      obtain ⟨c0, c1, c2, c3⟩ := Sn.at hrg
      clear hc hkl hrg
      have Hp := Lib.hid hp; clear hp
      go_wp2_with (first | (go_at_call 8; refine (Sn.to1_any p _).mono ?_; rintro e w' ⟨rfl, hb2⟩; have hth2 := Lib.hid (Sn.thereN (there_of_block Hh.out (hb2.block w.heap.size hs)) hlt)) | (refine wpList_store_mid rfl 26 (.tmp 21) (.tmp 20) rfl w.heap.size (k * 4) #[.float .f32 p.d, .float .f32 p.r, .float .f32 p.b, .float .f32 p.g] rfl rfl ?_ (Sn.isz p) (Sn.one p) ?_; exact hth2.out))
      clear c0 c1 c2 c3
      have Hth3 : Hid (w'.there w.heap.size 0 (n * 4)) := there_of_block Hh.out (hb2.block w.heap.size hs)
      have Hr3 : Hid (∀ (i : Nat) (p : Sn), i < k → ps[i]? = some p → w'.rangeAt w.heap.size (i * 4) p.cells) := fun i p hi hp => rangeAt_of_block (Hr.out i p hi hp) (hb2.block w.heap.size hs)
      have hs3 : w.heap.size < w'.heap.size := Nat.lt_of_lt_of_le hs hb2.size
      have Hb3 : Hid (Below w.heap.size w w') := Hb.out.trans (hb2.mono (Nat.le_of_lt hs))
      go_roundw
      case rel =>
        refine ⟨k + 1, by omega, by go_num, World.there_setCells Hth3.out _ _ _, fun i q hi hq => ?_, below_setCells Hb3.out (Nat.le_refl _) _ _, by rw [size_setCells]; exact hs3⟩
        rcases (by omega : i < k ∨ i = k) with h | rfl
        · exact World.rangeAt_setCells_apart (Hr3.out i q h hq) _ _ _ (Or.inr (Or.inl (by simp [Sn.cells]; omega)))
        · have hpq := Hp.out
          rw [hq] at hpq
          cases hpq
          exact World.rangeAt_setCells_same _ _ _ _ hth2.out
      case measure => simp [intOf]; omega
    · have hkn : k = n := by omega
      subst hkn
      clear HT
      go_wp2
      go_ret
      exact ⟨rfl, Hh.out, fun i p hp => Hr.out i p (by have := (List.getElem?_eq_some_iff.1 hp).1; have := Hl.out; omega) hp, hs, Hb.out⟩
theorem Sn.cn_iff {p q : Sn} (h : p.cn = q.cn) : Proofs.Ytagjkagfnfonpab.cn p.d = Proofs.Ytagjkagfnfonpab.cn q.d ∧ Proofs.Ytagjkagfnfonpab.cn p.r = Proofs.Ytagjkagfnfonpab.cn q.r ∧ Proofs.Ytagjkagfnfonpab.cn p.b = Proofs.Ytagjkagfnfonpab.cn q.b ∧ Proofs.Ytagjkagfnfonpab.cn p.g = Proofs.Ytagjkagfnfonpab.cn q.g := by
  have h' := h
  unfold Sn.cn at h'
  injection h' with e0 e1 e2 e3
  exact ⟨e0, e1, e2, e3⟩
set_option maxHeartbeats 2000000 in
theorem Sn.eq1_any (p q : Sn) (h : p.cn = q.cn) (w : World) : Calls Try.prog 11 #[.agg #[.float .f32 p.d, .float .f32 p.r, .float .f32 p.b, .float .f32 p.g], .agg #[.float .f32 q.d, .float .f32 q.r, .float .f32 q.b, .float .f32 q.g]] w (RV (.bool true) w) := by
  obtain ⟨e0, e1, e2, e3⟩ := Sn.cn_iff h
  clear h
  obtain ⟨x0, y0, m0, n0, r0, s0, t0⟩ := conv2 e0
  have T0 := Lib.hid t0; clear t0 e0
  obtain ⟨x1, y1, m1, n1, r1, s1, t1⟩ := conv2 e1
  have T1 := Lib.hid t1; clear t1 e1
  obtain ⟨x2, y2, m2, n2, r2, s2, t2⟩ := conv2 e2
  have T2 := Lib.hid t2; clear t2 e2
  obtain ⟨x3, y3, m3, n3, r3, s3, t3⟩ := conv2 e3
  have T3 := Lib.hid t3; clear t3 e3
  go_enter Try.func11, Try.ntmps11
  go_wp2_with fail
  refine (T0.out _ _ _).mono ?_
  rintro e z0 ⟨rfl, rfl⟩
  go_wp2_with fail
  refine (T1.out _ _ _).mono ?_
  rintro e z1 ⟨rfl, rfl⟩
  go_wp2_with fail
  refine (T2.out _ _ _).mono ?_
  rintro e z2 ⟨rfl, rfl⟩
  go_wp2_with fail
  refine (T3.out _ _ _).mono ?_
  rintro e z3 ⟨rfl, rfl⟩
  go_wp2
  all_goals
    go_ret
    refine ⟨rfl, ?_⟩
    (repeat (first | exact Below.refl _ _ | refine b_drewN ?_ _ | refine b_drew ?_ | refine b_alloc ?_ _ | refine b_then ?_ (by assumption)))
set_option maxRecDepth 100000 in
set_option maxHeartbeats 2000000 in
theorem Sn.eq_any (A A' : Option Addr) (n c c' : Nat) (ps qs : List Sn) (w : World) (hl : ps.length = n) (he : ps.map Sn.cn = qs.map Sn.cn) (hn : n ≤ 1048576) (hT : Sn.L w w.heap.size A ps) (hT' : Sn.L w w.heap.size A' qs) :
    Calls Try.prog 21 #[.slice A n c, .slice A' n c'] w fun e w' => e = .returned (.bool true) ∧ Below w.heap.size w w' := by
  have hl' : qs.length = n := by have := congrArg List.length he; simp at this; omega
  have Hl := Lib.hid hl; clear hl
  have Hl' := Lib.hid hl'; clear hl'
  have HT := Lib.hid hT; clear hT
  have HT' := Lib.hid hT'; clear hT'
  have He := Lib.hid he; clear he
  go_enter Try.func21, Try.ntmps21
  go_wp2
  go_loopw [5] (fun i wr => ∃ k : Nat, k ≤ n ∧ i = .int .i64 k ∧ Below w.heap.size w wr) (fun i _ => n - (intOf i).toNat)
  case atStart => exact ⟨0, Nat.zero_le _, rfl, Below.refl _ _⟩
  case round =>
    obtain ⟨k, hk, rfl, hb⟩ := hrel
    have Hb := Lib.hid hb; clear hb
    by_cases hlt : k < n
    · have hkl : k < ps.length := by have := Hl.out; omega
      have hkl' : k < qs.length := by have := Hl'.out; omega
      obtain ⟨b, off, rfl, hbs, hc⟩ := HT.out (by omega)
      obtain ⟨b', off', rfl, hbs', hc'⟩ := HT'.out (by omega)
      obtain ⟨p, hp⟩ : ∃ p, ps[k]? = some p := ⟨_, List.getElem?_eq_getElem hkl⟩
      obtain ⟨q, hq⟩ : ∃ q, qs[k]? = some q := ⟨_, List.getElem?_eq_getElem hkl'⟩
      have hpq : p.cn = q.cn := by
        have h1 := congrArg (fun l => l[k]?) He.out
        simp only [List.getElem?_map, hp, hq, Option.map_some, Option.some.injEq] at h1
        exact h1
      have Hpq := Lib.hid hpq; clear hpq
      obtain ⟨c0, c1, c2, c3⟩ := Sn.at (rangeAt_of_block (hc k p hp) (Hb.out.block b hbs))
      obtain ⟨d0, d1, d2, d3⟩ := Sn.at (rangeAt_of_block (hc' k q hq) (Hb.out.block b' hbs'))
      clear hc hc' hkl hkl' hp hq
      go_wp2_with fail
      go_still_tail 8, (by kernel_rfl)
      change wpList _ _ _ _ _ wr.drew
      clear c0 c1 c2 c3 d0 d1 d2 d3
      go_wp2_with (go_at_call 11; refine (Sn.eq1_any p q Hpq.out _).mono ?_; rintro e w' ⟨rfl, hb2⟩)
      have Hb2 : Below w.heap.size w w' := (Hb.out.drew).trans (hb2.mono Hb.out.size)
      go_roundw
      case rel => exact ⟨k + 1, by omega, by go_num, Hb2⟩
      case measure => simp [intOf]; omega
    · have hkn : k = n := by omega
      subst hkn
      go_wp2
      go_ret
      exact ⟨rfl, Hb.out⟩
set_option maxRecDepth 100000 in
set_option maxHeartbeats 1000000 in
theorem Sn.mark_any (b : Nat) (n c : Nat) (k0 : Int) (w : World) (hn : n ≤ 1048576) (h0 : 0 ≤ k0) (h1 : k0 ≤ 10000000) (ht : w.there b 0 (n * 4)) :
    Calls Try.prog 22 #[.slice (some ⟨b, 0, none⟩) n c, .int .i64 k0] w fun e w' => e = .returned (.int .i64 (k0 + 4 * n)) ∧ MB (some ⟨b, 0, none⟩) w w' := by
  have Ht0 := Lib.hid ht; clear ht
  go_enter Try.func22, Try.ntmps22
  go_wp2
  go_loopw [1, 5] (fun q i wr => ∃ k : Nat, k ≤ n ∧ q = .int .i64 (k0 + 4 * k) ∧ i = .int .i64 k ∧ MB (some ⟨b, 0, none⟩) w wr ∧ wr.there b 0 (n * 4)) (fun _ i _ => n - (intOf i).toNat)
  case atStart => exact ⟨0, Nat.zero_le _, by simp, rfl, MB.refl _ _, Ht0.out⟩
  case round =>
    obtain ⟨k, hkn, rfl, rfl, hm, hth2⟩ := hrel
    have Hm := Lib.hid hm; clear hm
    have Ht := Lib.hid hth2; clear hth2
    by_cases hlt : k < n
    · obtain ⟨e0, z0⟩ := Ht.out (k * 4) (by omega)
      obtain ⟨e1, z1⟩ := Ht.out (k * 4 + 1) (by omega)
      obtain ⟨e2, z2⟩ := Ht.out (k * 4 + 2) (by omega)
      obtain ⟨e3, z3⟩ := Ht.out (k * 4 + 3) (by omega)
      rw [Nat.zero_add] at e0 z0 e1 z1 e2 z2 e3 z3
      obtain ⟨v0, c0⟩ := Option.isSome_iff_exists.1 e0
      obtain ⟨v1, c1⟩ := Option.isSome_iff_exists.1 e1
      obtain ⟨v2, c2⟩ := Option.isSome_iff_exists.1 e2
      obtain ⟨v3, c3⟩ := Option.isSome_iff_exists.1 e3
      clear e0 e1 e2 e3
      go_wp2
      clear c0 z0 c1 z1 c2 z2 c3 z3
      go_roundw
      case rel => exact ⟨k + 1, by omega, by go_num, by go_num, ((((Hm.out.cell (k * 4) _).cell (k * 4 + 1) _).cell (k * 4 + 2) _).cell (k * 4 + 3) _), (there_cell (there_cell (there_cell (there_cell Ht.out b (k * 4) _) b (k * 4 + 1) _) b (k * 4 + 2) _) b (k * 4 + 3) _)⟩
      case measure => simp [intOf]; omega
    · have hkn' : k = n := by omega
      subst hkn'
      go_wp2
      go_ret
      exact ⟨rfl, Hm.out⟩
end Go.Proofs.Ytagjkagfnfonpab
