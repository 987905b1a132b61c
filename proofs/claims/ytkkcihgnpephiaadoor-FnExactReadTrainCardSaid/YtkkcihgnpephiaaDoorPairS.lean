/-
  Slices of Pair: how they lie, the laws' copy of them, their comparison, their marks, and what came in.
-/
import Derived.Test.YtkkcihgnpephiaaDoorBase
namespace Go.Proofs.YtkkcihgnpephiaaDoor
open Go.RowKit Go.ChangeShapes Go.WideShapes Go.Deep Go.Joins
set_option linter.unusedVariables false
set_option linter.unusedSimpArgs false
structure Px where
  a : Int
  b : Int
  l : Nat
def Px.cells (p : Px) : List Value := [.int .i16 p.a, .int .i16 p.b, .float .f32 p.l]
def Px.wf (p : Px) : Prop := (-32768 ≤ p.a ∧ p.a ≤ 32767) ∧ (-32768 ≤ p.b ∧ p.b ≤ 32767) ∧ p.l < 4294967296
/-- Up to which NaN. -/
def Px.cn (p : Px) : Px := ⟨p.a, p.b, Proofs.YtkkcihgnpephiaaDoor.cn p.l⟩
instance : Inhabited Px := ⟨⟨0, 0, 0⟩⟩
/-- The slice of address A holds the ps, below block B. -/
def Px.L (w : World) (B : Nat) (A : Option Addr) (ps : List Px) : Prop :=
  0 < ps.length → ∃ b off, A = some ⟨b, off, none⟩ ∧ b < B ∧ ∀ i p, ps[i]? = some p → w.rangeAt b (off + i * 3) p.cells
theorem Px.L.below {w w' : World} {B : Nat} {A : Option Addr} {ps : List Px} (h : Px.L w B A ps) {B' : Nat} (hb : Below B' w w') (hB : B ≤ B') : Px.L w' B A ps := fun h0 => by
  obtain ⟨b, off, e, hlt, hc⟩ := h h0
  exact ⟨b, off, e, hlt, fun i p hp => rangeAt_of_block (hc i p hp) (hb.block b (Nat.lt_of_lt_of_le hlt hB))⟩
theorem Px.L.more {w : World} {B B' : Nat} {A : Option Addr} {ps : List Px} (h : Px.L w B A ps) (hB : B ≤ B') : Px.L w B' A ps := fun h0 => by
  obtain ⟨b, off, e, hlt, hc⟩ := h h0
  exact ⟨b, off, e, Nat.lt_of_lt_of_le hlt hB, hc⟩
theorem Px.L.keep {w w' : World} {A : Option Addr} {ps : List Px} (h : Px.L w w.heap.size A ps) (hb : Below w.heap.size w w') : Px.L w' w'.heap.size A ps := (h.below hb (Nat.le_refl _)).more hb.size
theorem Px.L.mb {w w' : World} {A A' : Option Addr} {ps : List Px} (h : Px.L w w.heap.size A ps) (hm : MB A' w w') (hd : ∀ a a', A = some a → A' = some a' → a'.block ≠ a.block) : Px.L w' w'.heap.size A ps := fun h0 => by
  obtain ⟨b, off, e, hlt, hc⟩ := h h0
  exact ⟨b, off, e, by rw [hm.1]; exact hlt, fun i p hp => rangeAt_of_block (hc i p hp) (hm.2.1 b (fun a' ha' => hd ⟨b, off, none⟩ a' e ha'))⟩
theorem Px.at {w : World} {b o : Nat} {p : Px} (h : w.rangeAt b o p.cells) :
    w.cell? ⟨b, o, none⟩ = some (.int .i16 p.a) ∧ w.cell? ⟨b, o + 1, none⟩ = some (.int .i16 p.b) ∧ w.cell? ⟨b, o + 2, none⟩ = some (.float .f32 p.l) :=
  ⟨h 0 _ rfl, h 1 _ rfl, h 2 _ rfl⟩
def Px.In (w : World) (A : Option Addr) (n c : Nat) (ps : List Px) : Prop := ps.length = n ∧ n ≤ c ∧ c ≤ maxLen ∧ Px.L w w.heap.size A ps ∧ ∀ p ∈ ps, p.wf
section
variable {H : Type} {enc : TypeId × Value → H} {w : World} {base : Nat} {spare : Nat → Bool} {held : Bool}
theorem Px.len_of {α : Type} {l : List α} (h : l.length = 3) : ∃ v0 v1 v2, l = [v0, v1, v2] := by
  match l, h with
  | [v0, v1, v2], _ => exact ⟨v0, v1, v2, rfl⟩
theorem Px.cells_in {fuel : Nat} {cs : List Value} {x : DataW H × List MemPlace} (h : DataW.trod enc Tryd.prog w base spare held fuel 95 cs = some x) : ∃ p : Px, cs = p.cells ∧ p.wf := by
  obtain ⟨xs, n, _, _, hlen, hxl, hf⟩ := DataW.trod_struct Tryd.underlying95 h
  have hC : Tryd.prog.cellsOf 95 = 3 := by kernel_rfl
  have q_f32 : Tryd.prog.cellsOf 22 = 1 := by kernel_rfl
  have q_i16 : Tryd.prog.cellsOf 91 = 1 := by kernel_rfl
  rw [hC] at hlen
  obtain ⟨v0, v1, v2, rfl⟩ := Px.len_of hlen
  obtain ⟨y0, y1, y2, rfl⟩ := Px.len_of (show xs.length = 3 from hxl)
  have f0 : DataW.trod enc Tryd.prog w base spare held n 91 (([v0, v1, v2].drop 0).take (Tryd.prog.cellsOf 91)) = some y0 := hf 0 _ rfl
  have f1 : DataW.trod enc Tryd.prog w base spare held n 91 (([v0, v1, v2].drop 1).take (Tryd.prog.cellsOf 91)) = some y1 := hf 1 _ rfl
  have f2 : DataW.trod enc Tryd.prog w base spare held n 22 (([v0, v1, v2].drop 2).take (Tryd.prog.cellsOf 22)) = some y2 := hf 2 _ rfl
  rw [q_i16] at f0
  obtain ⟨x0, e0, _, g0⟩ := DataW.trod_int Tryd.underlying91 f0
  rw [q_i16] at f1
  obtain ⟨x1, e1, _, g1⟩ := DataW.trod_int Tryd.underlying91 f1
  rw [q_f32] at f2
  obtain ⟨x2, e2, g2⟩ := trod_f32x Tryd.underlying22 f2
  obtain rfl : v0 = .int .i16 x0 := List.head_eq_of_cons_eq e0
  obtain rfl : v1 = .int .i16 x1 := List.head_eq_of_cons_eq e1
  obtain rfl : v2 = .float .f32 x2 := List.head_eq_of_cons_eq e2
  exact ⟨⟨x0, x1, x2⟩, rfl, by simpa [Lit.wf, IntKind.min, IntKind.max, IntKind.signed, IntKind.bits] using g0, by simpa [Lit.wf, IntKind.min, IntKind.max, IntKind.signed, IntKind.bits] using g1, by simpa [Lit.wf] using g2⟩
theorem Px.in {A : Option Addr} {n c : Nat} {d : DataW H} {p : List MemPlace} (lt : ∀ x ∈ p, x.block < w.heap.size) (h : DataW.Trod enc Tryd.prog w 0 (fun _ => true) true 30 (.slice A n c) d p) : ∃ ps, Px.In w A n c ps := by
  obtain ⟨fuel, hf⟩ := h
  rcases open_slice Tryd.underlying30 hf with ⟨hcs, _⟩ | ⟨a, len, cap, m, k, D, Pl, hcs, _, hl, hm, hmm, hx, hi⟩
  · simp [Value.cells] at hcs
    obtain ⟨rfl, rfl, rfl⟩ := hcs
    exact ⟨[], rfl, Nat.le_refl _, Nat.zero_le _, fun h => absurd h (by simp), fun p hp => by cases hp⟩
  · simp [Value.cells] at hcs
    obtain ⟨rfl, rfl, rfl⟩ := hcs
    have hC : Tryd.prog.cellsOf 95 = 3 := by kernel_rfl
    rw [hC] at hi hx
    have hmn : n ≤ m := by rw [hmm]; simpa using hl
    obtain ⟨V, hV⟩ := choose_lt (α := Px) (n := n) (p := fun i p => p.wf ∧ ∀ j v, p.cells[j]? = some v → w.cell? ((a.add (i * 3)).add j) = some v) (fun i hin => by
      obtain ⟨cs', h1, h2⟩ := hi i (by omega)
      obtain ⟨q, rfl, hq⟩ := Px.cells_in h2
      obtain ⟨_, h3, h4⟩ := World.cells?_some h1
      refine ⟨q, hq, fun j v hv => ?_⟩
      have hj : j < 3 := by
        have := (List.getElem?_eq_some_iff.1 hv).1
        simpa [Px.cells] using this
      rw [h4 j hj]
      exact hv)
    refine ⟨(List.range n).map V, by simp, hl, hm, ?_, ?_⟩
    · intro h0
      have hn : 0 < n := by simpa using h0
      obtain ⟨b, off, spot⟩ := a
      have hc0 := (hV 0 hn).2 0 _ rfl
      have hc0' : w.cell? ⟨b, off, spot⟩ = some (.int .i16 (V 0).a) := by simpa [Addr.add] using hc0
      have hspot : spot = none := by simpa using World.cell?_spot hc0'
      subst hspot
      refine ⟨b, off, rfl, ?_, ?_⟩
      · have := block_lt_of_cell hc0'
        exact this
      · intro i q hq j v hv
        obtain ⟨hil, e⟩ := List.getElem?_eq_some_iff.1 hq
        simp at hil e
        subst e
        have := (hV i hil).2 j v hv
        rwa [Addr.add_mid, Addr.add_mid] at this
    · intro q hq
      simp at hq
      obtain ⟨i, hin, rfl⟩ := hq
      exact (hV i hin).1
end
theorem Px.sz_any (A : Option Addr) (n c : Nat) (L : Int) (w : World) (hn : n ≤ maxLen) (h0 : 0 ≤ L) (h1 : L ≤ 1048576) :
    Calls Tryd.prog 20 #[.slice A n c, .int .i64 L] w fun e w' => e = .returned (.int .i64 (if L < n then -1 else L - n)) ∧ w = w' := by
  unfold maxLen at hn
  by_cases h : L < n
  · rw [if_pos h]
    go_enter Tryd.func20, Tryd.ntmps20
    go_wp2
    go_ret
    exact ⟨rfl, rfl⟩
  · rw [if_neg h]
    go_enter Tryd.func20, Tryd.ntmps20
    go_wp2
    go_ret
    exact ⟨rfl, rfl⟩
theorem Px.to1_any (p : Px) (w : World) : Calls Tryd.prog 64 #[.agg #[.int .i16 p.a, .int .i16 p.b, .float .f32 p.l]] w (RV (.agg #[.int .i16 p.a, .int .i16 p.b, .float .f32 p.l]) w) := by
  go_enter Tryd.func64, Tryd.ntmps64
  go_wp2
  refine bodyPost_ret (v := .agg #[.int .i16 p.a, .int .i16 p.b, .float .f32 p.l]) (by simp [results, Tryd.results64, go_sem]) rfl ⟨rfl, ?_⟩
  (repeat (first | exact Below.refl _ _ | refine b_drewN ?_ _ | refine b_drew ?_ | refine b_alloc ?_ _ | refine b_then ?_ (by assumption)))
theorem Px.info : (Tryd.prog.info? 93).map (fun i => (i.zero, i.size, i.bytes)) = some (some (.agg #[.int .i16 0, .int .i16 0, .float .f32 0]), 3, 8) := by kernel_rfl
/-- A new slice that holds the ps: it is the call's own, and may be written. -/
def Px.Made (w w' : World) (n : Nat) (ps : List Px) : Prop :=
  w'.there w.heap.size 0 (n * 3) ∧ (∀ i p, ps[i]? = some p → w'.rangeAt w.heap.size (i * 3) p.cells) ∧ w.heap.size < w'.heap.size ∧ Below w.heap.size w w'
theorem Px.Made.l {w w' : World} {n : Nat} {ps : List Px} (h : Px.Made w w' n ps) : Px.L w' w'.heap.size (some ⟨w.heap.size, 0, none⟩) ps := fun _ =>
  ⟨w.heap.size, 0, rfl, h.2.2.1, fun i p hp => by rw [Nat.zero_add]; exact h.2.1 i p hp⟩
theorem Px.one (p : Px) : (#[.int .i16 p.a, .int .i16 p.b, .float .f32 p.l] : Array Value).all (·.oneCell') = true := by simp [Value.oneCell']
theorem Px.isz (p : Px) : (Tryd.prog.info? 93).map (·.size) = some (#[.int .i16 p.a, .int .i16 p.b, .float .f32 p.l] : Array Value).size := by
  obtain ⟨i0, hi, hz0, hz1, hz2⟩ := info_parts Px.info
  rw [hi, Option.map_some, hz1]
  rfl
theorem Px.thereN {w : World} {b n k : Nat} (h : w.there b 0 (n * 3)) (hk : k < n) : w.there b (k * 3) 3 := fun j hj => by
  have := h (k * 3 + j) (by omega)
  rwa [Nat.zero_add] at this
set_option maxRecDepth 100000 in
set_option maxHeartbeats 1000000 in
theorem Px.to_any (A : Option Addr) (n c : Nat) (ps : List Px) (w : World) (hl : ps.length = n) (hn : n ≤ 1048576) (hT : Px.L w w.heap.size A ps) :
    Calls Tryd.prog 22 #[.slice A n c] w fun e w' => e = .returned (.slice (some ⟨w.heap.size, 0, none⟩) n n) ∧ Px.Made w w' n ps := by
  obtain ⟨i0, hi, hz0, hz1, hz2⟩ := info_parts Px.info
  have hmk : ∀ wx, (Instr.makeSlice 34 (.int .i64 (n : Int)) (.int .i64 (n : Int))).run Tryd.prog wx = .ok (.slice (some ⟨wx.heap.size, 0, none⟩) n n) (wx.alloc (.cells (madeCells #[.int .i16 0, .int .i16 0, .float .f32 0] (n * 3)) 93)) := fun wx => by
    have := run_make (P := Tryd.prog) wx 34 93 i0 _ Tryd.underlying34 hi hz0 .i64 .i64 n n (by omega) (Int.le_refl _) (by rw [hz2]; omega) (by omega)
    simpa [hz1, Value.cells] using this
  have hsz : (madeCells #[.int .i16 0, .int .i16 0, .float .f32 0] (n * 3)).size = n * 3 := size_madeCells _ _
  have hth := there_new w (madeCells #[.int .i16 0, .int .i16 0, .float .f32 0] (n * 3)) 93
  rw [hsz] at hth
  generalize madeCells #[.int .i16 0, .int .i16 0, .float .f32 0] (n * 3) = row at *
  clear hsz hi hz0 hz1 hz2
  have Hth := Lib.hid hth; clear hth
  have Hl := Lib.hid hl; clear hl
  have HT := Lib.hid hT; clear hT
  go_enter Tryd.func22, Tryd.ntmps22
  go_wp2
  clear hmk
  go_loopw [4] (fun i wr => ∃ k : Nat, k ≤ n ∧ i = .int .i64 k ∧ wr.there w.heap.size 0 (n * 3) ∧ (∀ i p, i < k → ps[i]? = some p → wr.rangeAt w.heap.size (i * 3) p.cells) ∧ Below w.heap.size w wr ∧ w.heap.size < wr.heap.size) (fun i _ => n - (intOf i).toNat)
  case atStart => exact ⟨0, Nat.zero_le _, rfl, Hth.out, fun i p h => absurd h (by omega), (Below.refl _ _).alloc (Nat.le_refl _) _, by simp⟩
  case round =>
    obtain ⟨k, hk, rfl, hth, hr, hb, hs⟩ := hrel
    have Hr := Lib.hid hr; clear hr
    have Hh := Lib.hid hth; clear hth
    have Hb := Lib.hid hb; clear hb
    by_cases hlt : k < n
    · have hkl : k < ps.length := by have := Hl.out; omega
      obtain ⟨b, off, rfl, hbs, hc⟩ := HT.out (by omega)
      obtain ⟨p, hp⟩ : ∃ p, ps[k]? = some p := ⟨_, List.getElem?_eq_getElem hkl⟩
      have hrg := rangeAt_of_block (hc k p hp) (Hb.out.block b hbs)
      obtain ⟨c0, c1, c2⟩ := Px.at hrg
      clear hc hkl hrg
      have Hp := Lib.hid hp; clear hp
      go_wp2_with (first | (go_at_call 64; refine (Px.to1_any p _).mono ?_; rintro e w' ⟨rfl, hb2⟩; have hth2 := Lib.hid (Px.thereN (there_of_block Hh.out (hb2.block w.heap.size hs)) hlt)) | (refine wpList_store_mid rfl 93 (.tmp 21) (.tmp 20) rfl w.heap.size (k * 3) #[.int .i16 p.a, .int .i16 p.b, .float .f32 p.l] rfl rfl ?_ (Px.isz p) (Px.one p) ?_; exact hth2.out))
      clear c0 c1 c2
      have Hth3 : Hid (w'.there w.heap.size 0 (n * 3)) := there_of_block Hh.out (hb2.block w.heap.size hs)
      have Hr3 : Hid (∀ (i : Nat) (p : Px), i < k → ps[i]? = some p → w'.rangeAt w.heap.size (i * 3) p.cells) := fun i p hi hp => rangeAt_of_block (Hr.out i p hi hp) (hb2.block w.heap.size hs)
      have hs3 : w.heap.size < w'.heap.size := Nat.lt_of_lt_of_le hs hb2.size
      have Hb3 : Hid (Below w.heap.size w w') := Hb.out.trans (hb2.mono (Nat.le_of_lt hs))
      go_roundw
      case rel =>
        refine ⟨k + 1, by omega, by go_num, World.there_setCells Hth3.out _ _ _, fun i q hi hq => ?_, below_setCells Hb3.out (Nat.le_refl _) _ _, by rw [size_setCells]; exact hs3⟩
        rcases (by omega : i < k ∨ i = k) with h | rfl
        · exact World.rangeAt_setCells_apart (Hr3.out i q h hq) _ _ _ (Or.inr (Or.inl (by simp [Px.cells]; omega)))
        · have hpq := Hp.out
          rw [hq] at hpq
          cases hpq
          exact World.rangeAt_setCells_same _ _ _ _ hth2.out
      case measure => simp [intOf]; omega
    · have hkn : k = n := by omega
      subst hkn
      clear HT
      go_wp2
      go_ret
      exact ⟨rfl, Hh.out, fun i p hp => Hr.out i p (by have := (List.getElem?_eq_some_iff.1 hp).1; have := Hl.out; omega) hp, hs, Hb.out⟩
theorem Px.cn_iff {p q : Px} (h : p.cn = q.cn) : p.a = q.a ∧ p.b = q.b ∧ Proofs.YtkkcihgnpephiaaDoor.cn p.l = Proofs.YtkkcihgnpephiaaDoor.cn q.l := by
  have h' := h
  unfold Px.cn at h'
  injection h' with e0 e1 e2
  exact ⟨e0, e1, e2⟩
set_option maxHeartbeats 2000000 in
theorem Px.eq1_any (p q : Px) (h : p.cn = q.cn) (w : World) : Calls Tryd.prog 68 #[.agg #[.int .i16 p.a, .int .i16 p.b, .float .f32 p.l], .agg #[.int .i16 q.a, .int .i16 q.b, .float .f32 q.l]] w (RV (.bool true) w) := by
  obtain ⟨e0, e1, e2⟩ := Px.cn_iff h
  clear h
  obtain ⟨x2, y2, m2, n2, r2, s2, t2⟩ := conv2 e2
  have T2 := Lib.hid t2; clear t2 e2
  rw [e0, e1]
  clear e0 e1
  go_enter Tryd.func68, Tryd.ntmps68
  go_wp2_with fail
  refine (T2.out _ _ _).mono ?_
  rintro e z2 ⟨rfl, rfl⟩
  go_wp2
  all_goals
    go_ret
    refine ⟨rfl, ?_⟩
    (repeat (first | exact Below.refl _ _ | refine b_drewN ?_ _ | refine b_drew ?_ | refine b_alloc ?_ _ | refine b_then ?_ (by assumption)))
set_option maxRecDepth 100000 in
set_option maxHeartbeats 2000000 in
theorem Px.eq_any (A A' : Option Addr) (n c c' : Nat) (ps qs : List Px) (w : World) (hl : ps.length = n) (he : ps.map Px.cn = qs.map Px.cn) (hn : n ≤ 1048576) (hT : Px.L w w.heap.size A ps) (hT' : Px.L w w.heap.size A' qs) :
    Calls Tryd.prog 24 #[.slice A n c, .slice A' n c'] w fun e w' => e = .returned (.bool true) ∧ Below w.heap.size w w' := by
  have hl' : qs.length = n := by have := congrArg List.length he; simp at this; omega
  have Hl := Lib.hid hl; clear hl
  have Hl' := Lib.hid hl'; clear hl'
  have HT := Lib.hid hT; clear hT
  have HT' := Lib.hid hT'; clear hT'
  have He := Lib.hid he; clear he
  go_enter Tryd.func24, Tryd.ntmps24
  go_wp2
  go_loopw [5] (fun i wr => ∃ k : Nat, k ≤ n ∧ i = .int .i64 k ∧ Below w.heap.size w wr) (fun i _ => n - (intOf i).toNat)
  case atStart => exact ⟨0, Nat.zero_le _, rfl, Below.refl _ _⟩
  case round =>
    obtain ⟨k, hk, rfl, hb⟩ := hrel
    have Hb := Lib.hid hb; clear hb
    by_cases hlt : k < n
    · have hkl : k < ps.length := by have := Hl.out; omega
      have hkl' : k < qs.length := by have := Hl'.out; omega
      obtain ⟨b, off, rfl, hbs, hc⟩ := HT.out (by omega)
      obtain ⟨b', off', rfl, hbs', hc'⟩ := HT'.out (by omega)
      obtain ⟨p, hp⟩ : ∃ p, ps[k]? = some p := ⟨_, List.getElem?_eq_getElem hkl⟩
      obtain ⟨q, hq⟩ : ∃ q, qs[k]? = some q := ⟨_, List.getElem?_eq_getElem hkl'⟩
      have hpq : p.cn = q.cn := by
        have h1 := congrArg (fun l => l[k]?) He.out
        simp only [List.getElem?_map, hp, hq, Option.map_some, Option.some.injEq] at h1
        exact h1
      have Hpq := Lib.hid hpq; clear hpq
      obtain ⟨c0, c1, c2⟩ := Px.at (rangeAt_of_block (hc k p hp) (Hb.out.block b hbs))
      obtain ⟨d0, d1, d2⟩ := Px.at (rangeAt_of_block (hc' k q hq) (Hb.out.block b' hbs'))
      clear hc hc' hkl hkl' hp hq
      go_wp2_with fail
      go_still_tail 8, (by kernel_rfl)
      change wpList _ _ _ _ _ wr.drew
      clear c0 c1 c2 d0 d1 d2
      go_wp2_with (go_at_call 68; refine (Px.eq1_any p q Hpq.out _).mono ?_; rintro e w' ⟨rfl, hb2⟩)
      have Hb2 : Below w.heap.size w w' := (Hb.out.drew).trans (hb2.mono Hb.out.size)
      go_roundw
      case rel => exact ⟨k + 1, by omega, by go_num, Hb2⟩
      case measure => simp [intOf]; omega
    · have hkn : k = n := by omega
      subst hkn
      go_wp2
      go_ret
      exact ⟨rfl, Hb.out⟩
set_option maxRecDepth 100000 in
set_option maxHeartbeats 1000000 in
theorem Px.mark_any (b : Nat) (n c : Nat) (k0 : Int) (w : World) (hn : n ≤ 1048576) (h0 : 0 ≤ k0) (h1 : k0 ≤ 10000000) (ht : w.there b 0 (n * 3)) :
    Calls Tryd.prog 27 #[.slice (some ⟨b, 0, none⟩) n c, .int .i64 k0] w fun e w' => e = .returned (.int .i64 (k0 + 3 * n)) ∧ MB (some ⟨b, 0, none⟩) w w' := by
  have Ht0 := Lib.hid ht; clear ht
  go_enter Tryd.func27, Tryd.ntmps27
  go_wp2
  go_loopw [1, 5] (fun q i wr => ∃ k : Nat, k ≤ n ∧ q = .int .i64 (k0 + 3 * k) ∧ i = .int .i64 k ∧ MB (some ⟨b, 0, none⟩) w wr ∧ wr.there b 0 (n * 3)) (fun _ i _ => n - (intOf i).toNat)
  case atStart => exact ⟨0, Nat.zero_le _, by simp, rfl, MB.refl _ _, Ht0.out⟩
  case round =>
    obtain ⟨k, hkn, rfl, rfl, hm, hth2⟩ := hrel
    have Hm := Lib.hid hm; clear hm
    have Ht := Lib.hid hth2; clear hth2
    by_cases hlt : k < n
    · obtain ⟨e0, z0⟩ := Ht.out (k * 3) (by omega)
      obtain ⟨e1, z1⟩ := Ht.out (k * 3 + 1) (by omega)
      obtain ⟨e2, z2⟩ := Ht.out (k * 3 + 2) (by omega)
      rw [Nat.zero_add] at e0 z0 e1 z1 e2 z2
      obtain ⟨v0, c0⟩ := Option.isSome_iff_exists.1 e0
      obtain ⟨v1, c1⟩ := Option.isSome_iff_exists.1 e1
      obtain ⟨v2, c2⟩ := Option.isSome_iff_exists.1 e2
      clear e0 e1 e2
      go_wp2
      clear c0 z0 c1 z1 c2 z2
      go_roundw
      case rel => exact ⟨k + 1, by omega, by go_num, by go_num, (((Hm.out.cell (k * 3) _).cell (k * 3 + 1) _).cell (k * 3 + 2) _), (there_cell (there_cell (there_cell Ht.out b (k * 3) _) b (k * 3 + 1) _) b (k * 3 + 2) _)⟩
      case measure => simp [intOf]; omega
    · have hkn' : k = n := by omega
      subst hkn'
      go_wp2
      go_ret
      exact ⟨rfl, Hm.out⟩
end Go.Proofs.YtkkcihgnpephiaaDoor
