/-
  A train driven back.
-/
import Derived.RangeFuncNested
import Derived.RangeFuncBound
import Derived.RangeFuncCalls
import Derived.RangeFuncLeaves
import Derived.RangeFuncFrom
import Derived.RangeFuncBox
import Derived.Shelf.Abstract
import Derived.Shelf.RegionOpen
import Derived.OwnWalkIn
import Derived.TacticsInMore
import Derived.LoopNIn
import Derived.LoopIn
import Derived.Maps.AppendAt
import Derived.Test.YtolbacgfcobmdaaJoin
namespace Go.Proofs.Ytolbacgfcobmdaa
open Go.RowKit Go.ChangeShapes Go.WideShapes Go.Deep Go.Shelf
attribute [local go_sem] Oper.semAt_some
set_option linter.unusedVariables false
set_option linter.unusedSimpArgs false
/-- Below block m all is as it was, but for the blocks of x; no block has gone. -/
def Keep (m : Nat) (x : Nat → Prop) (W W' : World) : Prop := W.heap.size ≤ W'.heap.size ∧ ∀ k, k < m → ¬ x k → W'.heap[k]? = W.heap[k]?
theorem Keep.refl (m : Nat) (x : Nat → Prop) (W : World) : Keep m x W W := ⟨Nat.le_refl _, fun _ _ _ => rfl⟩
theorem Keep.trans {m : Nat} {x : Nat → Prop} {A B C : World} (h : Keep m x A B) (k : Keep m x B C) : Keep m x A C :=
  ⟨Nat.le_trans h.1 k.1, fun i hi hx => (k.2 i hi hx).trans (h.2 i hi hx)⟩
theorem Keep.below {m : Nat} {x : Nat → Prop} {A B : World} (h : Below m A B) : Keep m x A B := ⟨h.size, fun k hk _ => h.block k hk⟩
theorem keep_b {m : Nat} {x : Nat → Prop} {l : Nat} (W : World) (o o' : Obj) (hl : m ≤ l) (ho : W.heap[l]? = some o) : Keep m x W (W.putObj l o') := by
  refine ⟨by simp, fun k hk _ => World.putObj_heap_other (fun e => ?_)⟩
  omega
def turnP (p : Pr) : Pr := ⟨p.b, p.a, p.l⟩
def backT (ps : List Pr) : List Pr := if okTr ps then ps.reverse.map turnP else []
theorem backT_le (ps : List Pr) : (backT ps).length ≤ 8 := by
  unfold backT
  split
  · rename_i h
    have := (size_bounds h).2
    simpa using this
  · simp
def codeT (ps : List Pr) : Int := if okTr ps then 0 else 1
theorem rev_step {ps : List Pr} {r : Nat} {p : Pr} (hp : ps[r]? = some p) : (ps.drop r).reverse = (ps.drop (r + 1)).reverse ++ [p] := by
  obtain ⟨h1, h2⟩ := List.getElem?_eq_some_iff.1 hp
  rw [List.drop_eq_getElem_cons h1, h2, List.reverse_cons]
set_option maxRecDepth 100000 in
set_option maxHeartbeats 4000000 in
theorem specBack_any (A : Option Addr) (n c : Nat) (ps : List Pr) (w : World) (hl : ps.length = n) (hn : n ≤ 1048576) (hT : Tr w w.heap.size A ps) (hw : ∀ p ∈ ps, p.wf) :
    Calls Try.prog 19 #[.slice A n c] w (TLC (backT ps) (codeT ps) w) := by
  obtain ⟨i0, hi, hz0, hz1, hz2⟩ := info_parts infoPair
  have Hl := Lib.hid hl; clear hl
  have HT := Lib.hid hT; clear hT
  have Hw := Lib.hid hw; clear hw
  have Hi := Lib.hid hi; clear hi
  unfold backT codeT
  rcases Bool.eq_false_or_eq_true (okTr ps) with h1 | h1
  · simp only [h1, if_true]
    have zs := size_bounds h1
    rw [Hl.out] at zs
    go_enter Try.func19, Try.ntmps19
    go_wp2_with (go_at_call 35; refine (l01Ok_any _ _ _ ps _ Hl.out hn HT.out Hw.out).mono ?_; rintro e w1 ⟨rfl, rfl⟩)
    have Ho := Lib.hid (own_empty w w.heap.size 62 3 (Nat.le_refl _))
    have B2 : Hid (Below w.heap.size w (w.alloc (.cells #[] 62))) := (Below.refl _ _).alloc (Nat.le_refl _) _
    have T2 : Hid (Tr (w.alloc (.cells #[] 62)) w.heap.size A ps) := HT.out.below B2.out (Nat.le_refl _)
    go_loopw [4, 5] (fun v i wr => ∃ (r : Nat) (z : Int), r ≤ n ∧ z = (r : Int) - 1 ∧ i = .int .i64 z ∧ wr.ownsRow w.heap.size 62 3 v (n - r) (((ps.drop r).reverse.map turnP).flatMap Pr.cells) ∧ Below w.heap.size w wr ∧ Tr wr w.heap.size A ps) (fun _ i _ => (intOf i + 1).toNat)
    case atStart =>
      have e : ps.drop n = [] := List.drop_eq_nil_of_le (by rw [Hl.out]; exact Nat.le_refl _)
      refine ⟨n, _, Nat.le_refl _, rfl, rfl, ?_, B2.out, T2.out⟩
      rw [e, Nat.sub_self]
      exact Ho.out
    case round =>
      obtain ⟨r, z, hr, hz, rfl, hown, hb, hT⟩ := hrel
      have Hown := Lib.hid hown; have Hb := Lib.hid hb; have HTr := Lib.hid hT
      clear hown hb hT
      cases r with
      | zero =>
        obtain rfl : z = -1 := by omega
        clear hz
        rw [Nat.sub_zero, List.drop_zero] at Hown
        go_wp2
        go_ret2
        exact tlc_of_row Hown.out Hb.out
      | succ r =>
        obtain rfl : z = (r : Int) := by omega
        clear hz
        have hkl : r < ps.length := by have := Hl.out; omega
        obtain ⟨b, off, rfl, hbs, hc⟩ := HTr.out (by omega)
        obtain ⟨p, hp⟩ : ∃ p, ps[r]? = some p := ⟨_, List.getElem?_eq_getElem hkl⟩
        obtain ⟨c0, c1, c2⟩ := cells3 (hc r p hp)
        have Hp := Lib.hid hp
        have Hbs := Lib.hid (own_base Hown.out)
        clear hc hkl hp
        have z1 : (0 : Int) ≤ (r : Int) := by omega
        have z2 : (r : Int) < (n : Int) := by omega
        have hbz : b < wr.heap.size := Nat.lt_of_lt_of_le hbs Hb.out.size
        go_wp2_with fail
        go_region_law (refine step_append_lies _ (by rfl) (.tmp 18) (.tmp 35) _ (by rfl) w.heap.size 62 i0 _ 3 8 Try.underlying28 Hi.out hz0 hz1 hz2 (by rfl) (by omega) _ (n - (r + 1)) _ (by rfl) ((Hown.out.drew).alloc _) _ 1 _ (turnP p).cells (by rfl) (by rfl) (World.news_of_block (cs := #[_, _, _]) (heap_alloc_new _ _)) (by intro u hu; simp [Pr.cells] at hu; rcases hu with rfl | rfl | rfl <;> rfl) (by omega) (by unfold maxLen; omega) (by omega) (by have := Hb.out.size; simp; omega) _ (by rfl) ?_; intro g cap w9 hown9 hgrow9 hat9 hlt9)
        all_goals
          have hb9 : Below w.heap.size wr w9 := ((Below.refl w.heap.size wr).drew.alloc (by simpa using Hb.out.size) _).grown hgrow9 (by have := Hb.out.size; simp; omega) (fun k h => (Hbs.out k h).1)
          have T9 : Hid (Tr w9 w.heap.size (some ⟨b, off, none⟩) ps) := HTr.out.below hb9 (Nat.le_refl _)
          have B9 : Hid (Below w.heap.size w w9) := Hb.out.trans hb9
          have O9 : Hid (w9.ownsRow w.heap.size 62 3 (.slice (some ⟨g, 0, none⟩) (n - (r + 1) + 1) cap) (n - r) (((ps.drop r).reverse.map turnP).flatMap Pr.cells)) := by
            have e : n - (r + 1) + 1 = n - r := by omega
            rw [← e, rev_step Hp.out, List.map_append, List.flatMap_append]
            exact hown9
          clear hb9 hown9 hgrow9 hat9 hlt9 c0 c1 c2
          go_wp2
          go_roundw
          case rel => exact ⟨r, _, by omega, rfl, rfl, O9.out, B9.out, T9.out⟩
          case measure => simp [intOf]
  · simp only [h1, if_false, Bool.false_eq_true]
    go_enter Try.func19, Try.ntmps19
    go_wp2_with (go_at_call 35; refine (l01Ok_any _ _ _ ps _ Hl.out hn HT.out Hw.out).mono ?_; rintro e w1 ⟨rfl, rfl⟩)
    go_ret2
    exact tlc_of_row (ps := []) (own_empty _ _ _ _ (Nat.le_refl _)) ((Below.refl _ _).alloc (Nat.le_refl _) _)
set_option maxRecDepth 100000 in
set_option maxHeartbeats 2000000 in
theorem back_stops (n : Nat) (m : Nat) (x : Nat → Prop) (w : World) (hm : w.heap.size = m) (B1 : Nat) (A : Option Addr) (k c : Nat) (ps : List Pr)
    (q1 : w.heap[B1]? = some (.cells #[.slice A k c] 28 (0, 0))) (hx1 : ¬ x B1) (h1m : B1 < m)
    (hl : ps.length = k) (hk8 : k ≤ 1048576) (hT : 0 < ps.length → ∃ b off, A = some ⟨b, off, none⟩ ∧ b < m ∧ ¬ x b ∧ ∀ i p, ps[i]? = some p → w.rangeAt b (off + i * 3) p.cells) :
    SeqStopsK Fence.wide n Try.prog 60 #[.pointer (some ⟨B1, 0, none⟩)] (fun y : Nat × Pr => #[.int .i64 y.1, .agg #[.int .i16 y.2.a, .int .i16 y.2.b, .float .f32 y.2.l]]) (Keep m x)
      (fun xs => xs.map Prod.snd = ps.reverse) (fun _ => True) k w := by
  intro l J Jx W hW hJ hJx hY h0
  refine callsIn_of_wp Try.func60 rfl trivial ?_ rfl
  simp only [Try.ntmps60, List.size_toArray, List.length_cons, List.length_nil, Nat.reduceAdd, Nat.reduceSub, Array.replicate_succ, Array.replicate_zero, List.push_toArray, List.append_toArray, List.nil_append, List.cons_append]
  have c1 : ∀ W', Keep m x W W' → W'.cell? ⟨B1, 0, none⟩ = some (.slice A k c) := fun W' hk => cell_of_row _ _ 0 _ _ _ ((hk.2 _ (by omega) hx1).trans ((hW.block _ (by omega)).trans q1))
  have C1 := Lib.hid c1; have HT := Lib.hid hT; have HW := Lib.hid hW; have HY := Lib.hid hY; have HJ := Lib.hid hJ
  have c0 := c1 W (Keep.refl _ _ _)
  clear c1 hT hY hJ q1
  have hWm : m ≤ W.heap.size := by rw [← hm]; exact hW.size
  have Hm := Lib.hid hm
  have Hl := Lib.hid hl
  have H0 := Lib.hid h0
  clear hW hm hl h0
  gi_wp2
  clear c0
  gi_loopw [3] (fun i wr => ∃ (r : Nat) (z : Int) (pre : List (Nat × Pr)), r ≤ k ∧ z = (r : Int) - 1 ∧ i = .int .i64 z ∧ pre.map Prod.snd = (ps.drop r).reverse ∧ pre.length = k - r ∧ J pre wr ∧ Keep m x W wr) (fun i _ => (intOf i + 1).toNat)
  case atStart =>
    refine ⟨k, _, [], Nat.le_refl _, rfl, rfl, ?_, by simp, H0.out, Keep.refl _ _ _⟩
    have e : ps.drop k = [] := List.drop_eq_nil_of_le (by rw [Hl.out]; exact Nat.le_refl _)
    rw [e]
    rfl
  case round =>
    obtain ⟨r, z, pre, hr, hz, rfl, hpm, hpl, hJp, hkp⟩ := hrel
    have Hpm := Lib.hid hpm; have HJp := Lib.hid hJp; have HKp := Lib.hid hkp; have Hpl := Lib.hid hpl
    clear hpm hJp hkp hpl
    cases r with
    | zero =>
      obtain rfl : z = -1 := by omega
      clear hz
      gi_wp2
      go_end0
      refine ⟨⟨_, rfl⟩, .inl ⟨pre, ?_, HJp.out⟩⟩
      have := Hpm.out
      rwa [List.drop_zero] at this
    | succ r =>
      obtain rfl : z = (r : Int) := by omega
      clear hz
      have hjl : r < ps.length := by have := Hl.out; omega
      obtain ⟨b, off, rfl, hbm, hbx, hc⟩ := HT.out (by omega)
      obtain ⟨p, hp⟩ : ∃ p, ps[r]? = some p := ⟨_, List.getElem?_eq_getElem hjl⟩
      obtain ⟨d0, d1, d2⟩ := cells3 (rangeAt_of_block (rangeAt_of_block (hc r p hp) (HW.out.block b (by have := Hm.out; omega))) (HKp.out.2 b hbm hbx))
      have c0 := C1.out wr HKp.out
      have Hp := Lib.hid hp
      clear hc hp
      have z1 : (0 : Int) ≤ (r : Int) := by omega
      have z2 : (r : Int) < (k : Int) := by omega
      obtain ⟨fn, tmps, assign, body, hy, hR⟩ := HY.out pre (r, p) wr HJp.out (by have := Hpl.out; omega)
      gi_wp2
      refine ⟨fun h => absurd h (by decide), ?_⟩
      refine hR.mono ?_
      clear hR hy d0 d1 d2 c0
      rintro e W3 (⟨rfl, hJ3, hk3⟩ | ⟨rfl, hJx3⟩)
      · have HJ3 := Lib.hid hJ3; have HK3 := Lib.hid (HKp.out.trans hk3)
        clear hJ3 hk3
        gi_wp2
        have Hinv : Hid ((pre ++ [(r, p)]).map Prod.snd = (ps.drop r).reverse) := by
          rw [rev_step Hp.out, List.map_append, Hpm.out]
          rfl
        have Hlen : Hid ((pre ++ [(r, p)]).length = k - r) := by
          rw [List.length_append, Hpl.out]
          show k - (r + 1) + 1 = k - r
          omega
        go_roundw
        case rel => exact ⟨r, _, pre ++ [(r, p)], by omega, rfl, rfl, Hinv.out, Hlen.out, HJ3.out, HK3.out⟩
        case measure => simp [intOf]
      · gi_wp2
        refine bodyPost_ret (results_none rfl _ _ _) rfl ?_
        exact ⟨⟨_, rfl⟩, .inr ⟨pre ++ [(r, p)], trivial, hJx3⟩⟩
theorem backward_in (n : Nat) (A : Option Addr) (k c : Nat) (w : World) :
    CallsIn Fence.wide n Try.prog 46 #[.slice A k c] w fun e w' =>
      e = .returned (.func (.func 60) #[] #[.pointer (some ⟨w.heap.size, 0, none⟩)]) ∧ w.alloc (.cells #[.slice A k c] 28) = w' := by
  refine callsIn_wide.2 ?_
  go_enter Try.func46, Try.ntmps46
  go_wp2
  go_ret
  exact ⟨rfl, rfl⟩
theorem blk_own {β : Type} (B : Nat) (cs : Array Value) (t : TypeId) : Own (fun (_ : β) W => W.heap[B]? = some (.cells cs t (0, 0))) := fun s X Y row hs hg hrow =>
  (hg.block B (Array.getElem?_eq_some_iff.1 hs).1 (fun e' => by obtain ⟨o, ho, hc⟩ := hrow B e'.symm; rw [show X.heap[B]? = _ from hs] at ho; cases ho; cases hc)).trans hs
set_option maxRecDepth 100000 in
set_option maxHeartbeats 4000000 in
theorem implBack_any (A : Option Addr) (k c : Nat) (ps : List Pr) (w : World) (hl : ps.length = k) (hn : k ≤ 1048576) (hT : Tr w w.heap.size A ps) (hw : ∀ p ∈ ps, p.wf) :
    Calls Try.prog 20 #[.slice A k c] w (TLC (backT ps) (codeT ps) w) := by
  obtain ⟨i0, hi, hz0, hz1, hz2⟩ := info_parts infoPair
  have Hl := Lib.hid hl
  have Hw := Lib.hid hw; clear hw
  have Hi := Lib.hid hi; clear hi
  unfold backT codeT
  rcases Bool.eq_false_or_eq_true (okTr ps) with h1 | h1
  · simp only [h1, if_true]
    have zs := size_bounds h1
    rw [hl] at zs
    clear hl
    refine (callsIn_wide (n := 9)).1 ?_
    refine callsIn_of_wp_marks Try.func20 rfl trivial ?_ rfl
    simp only [Try.ntmps20, List.size_toArray, List.length_cons, List.length_nil, Nat.reduceAdd, Nat.reduceSub, Array.replicate_succ, Array.replicate_zero, List.push_toArray, List.append_toArray, List.nil_append, List.cons_append]
    have HT := Lib.hid hT; clear hT
    gi_wp2
    refine ⟨trivial, ?_⟩
    refine (callsIn_wide.2 (validTrain_any _ _ _ ps _ Hl.out hn HT.out Hw.out)).mono ?_
    rintro e w1 ⟨rfl, b1⟩
    have B1 := Lib.hid b1; clear b1
    gi_wp2_with (gi_at_make; refine wpListIn_make_own _ rfl _ _ 28 rfl w1.heap.size 62 i0 _ 3 Try.underlying28 Hi.out hz0 hz1 _ _ _ k rfl rfl (by omega) (by rw [hz2]; omega) (by unfold maxLen; omega) (Nat.le_refl _) ?_)
    intro w2 hown hgrow
    have B2 : Hid (Below w1.heap.size w1 w2) := (Below.refl _ _).grown hgrow (Nat.le_refl _) (fun k h => by cases h)
    have s2 : Hid (w1.heap.size < w2.heap.size) := (own_base hown _ rfl).2
    have Ho := Lib.hid hown
    clear hown hgrow
    gi_wp2
    refine ⟨trivial, ?_⟩
    refine (backward_in 8 A k c _).mono ?_
    rintro e w' ⟨rfl, rfl⟩
    gi_wp2
    obtain ⟨S, hS⟩ : ∃ S, w2.heap.size = S := ⟨_, rfl⟩
    have hwS : w1.heap.size < S := by have := s2.out; omega
    obtain ⟨W0, hW0⟩ : ∃ W0, ((w2.alloc (.cells #[.slice (some ⟨w1.heap.size, 0, none⟩) 0 k] 28)).alloc (.cells #[.slice A k c] 28)) = W0 := ⟨_, rfl⟩
    have hsz : W0.heap.size = S + 2 := by rw [← hW0, ← hS]; simp
    have hB0 : Below S w2 W0 := by
      rw [← hW0]
      exact ((Below.refl _ _).alloc (by omega) _).alloc (by simp only [World.size_alloc]; omega) _
    have k0 : Boxed W0 S 28 (.slice (some ⟨w1.heap.size, 0, none⟩) 0 k) := by
      rw [← hW0, ← hS]
      exact (Boxed.new w2 _ _).alloc _
    have k1 : W0.heap[S + 1]? = some (.cells #[.slice A k c] 28 (0, 0)) := by
      rw [← hW0, ← hS]
      have := heap_alloc_new (w2.alloc (.cells #[.slice (some ⟨w1.heap.size, 0, none⟩) 0 k] 28)) (.cells #[.slice A k c] 28)
      simpa using this
    have o0 : W0.ownsRow w1.heap.size 62 3 (.slice (some ⟨w1.heap.size, 0, none⟩) 0 k) 0 [] := by
      rw [← hW0]
      exact (Ho.out.alloc _).alloc _
    have b0 : Below w1.heap.size w1 W0 := B2.out.trans (hB0.mono (Nat.le_of_lt hwS))
    have hT' : 0 < ps.length → ∃ b off, A = some ⟨b, off, none⟩ ∧ b < S + 2 ∧ ¬ (b = w1.heap.size ∨ b = S) ∧ ∀ i p, ps[i]? = some p → W0.rangeAt b (off + i * 3) p.cells := fun h0 => by
      obtain ⟨b, off, e, hlt, hc⟩ := (HT.out.keep B1.out) h0
      exact ⟨b, off, e, by omega, by omega, fun i p hp => rangeAt_of_block (hc i p hp) (b0.block b hlt)⟩
    simp only [hS, hW0]
    clear hW0
    have hseq := back_stops 8 (S + 2) (fun j => j = w1.heap.size ∨ j = S) W0 hsz (S + 1) A k c ps k1 (by show ¬ (_ ∨ _); omega) (by omega) Hl.out hn hT'
    clear k1 hT'
    refine wpIn_rangeFunc_ownH rfl (by omega) (gf := 60) (lb := #[.pointer (some ⟨S + 1, 0, none⟩)]) rfl trivial (enters_of Try.func60 (by kernel_rfl) rfl)
      hseq Keep.trans (fun W l o o' hle ho hc hwk => keep_b W o o' (by omega) ho) (Below.refl _ _) (fun _ => rfl)
      (fun (pre : List (Nat × Pr)) W => (∃ v, Boxed W S 28 v ∧ W.ownsRow w1.heap.size 62 3 v pre.length ((pre.map fun y => turnP y.2).flatMap Pr.cells) ∧ v = .slice (some ⟨w1.heap.size, 0, none⟩) pre.length k) ∧ Below w1.heap.size W0 W)
      (fun _ _ _ => False)
      (OwnFrom.and (Own.from (holdsRow_own w1.heap.size S 28 62 3 (fun pre : List (Nat × Pr) => pre.length) (fun pre : List (Nat × Pr) => (pre.map fun y => turnP y.2).flatMap Pr.cells) (fun (pre : List (Nat × Pr)) v => v = .slice (some ⟨w1.heap.size, 0, none⟩) pre.length k)) _) (ownFrom_below (by omega) (by omega)))
      (fun _ _ _ _ _ hs _ _ => hs)
      ⟨⟨_, k0, o0, rfl⟩, Below.refl _ _⟩
      (fun y a' W => ∃ Bx, S + 2 ≤ Bx ∧ W.heap[Bx]? = some (.cells #[.int .i16 y.2.a, .int .i16 y.2.b, .float .f32 y.2.l] 62 (0, 0)) ∧ a' = { tmps := #[.slice A k c, undef, .slice none 0 0, .int .i64 0, .pointer (some ⟨S, 0, none⟩), undef, .pointer (some ⟨Bx, 0, none⟩), .slice A k c, .bool true, .bool false, .slice A k c, .int .i64 k, .slice (some ⟨w1.heap.size, 0, none⟩) 0 k, .slice A k c, .func (.func 60) #[] #[.pointer (some ⟨S + 1, 0, none⟩)], .int .i64 y.1, .agg #[.int .i16 y.2.a, .int .i16 y.2.b, .float .f32 y.2.l], undef, undef, undef, undef, undef, undef, undef, undef, undef, undef, undef], defers := [] })
      (fun y a' _ X Y row hs hg hr => by obtain ⟨Bx, h1, h2, h3⟩ := hs; exact ⟨Bx, h1, blk_own Bx _ _ () X Y row h2 hg (fun r e => (hr r e).2), h3⟩)
      ?assign ?body ?done ?stop
    case assign =>
      rintro l pre y W K ⟨⟨v, hbx, hrow, rfl⟩, hB⟩ hK
      have hszW : S + 2 ≤ W.heap.size := by have := hB.size; omega
      gi_wp2
      exact hK _ _ ((KeepsOthers.alloc _ _).from _) (Keep.below ((Below.refl _ W).alloc hszW _)) ⟨⟨_, hbx.alloc _, hrow.alloc _, rfl⟩, hB.alloc (by omega) _⟩ ⟨W.heap.size, hszW, heap_alloc_new W _, rfl⟩
    case body =>
      rintro l pre y a' W hlw hrec ⟨⟨v, hbx, hrow, rfl⟩, hB⟩ ⟨Bx, hBx, hblk, rfl⟩ hlen
      have hc := hbx.cell
      have d0 : W.cell? ⟨Bx, 0, none⟩ = some (.int .i16 y.2.a) := cell_of_row _ _ 0 _ _ _ hblk
      have d1 : W.cell? ⟨Bx, 1, none⟩ = some (.int .i16 y.2.b) := cell_of_row _ _ 1 _ _ _ hblk
      have d2 : W.cell? ⟨Bx, 2, none⟩ = some (.float .f32 y.2.l) := cell_of_row _ _ 2 _ _ _ hblk
      have Hbx := Lib.hid hbx; have Hrow := Lib.hid hrow; have HB := Lib.hid hB
      clear hbx hrow hB hrec hblk
      have hlt : pre.length < k := hlen
      gi_wp2_with (gi_at_builtin; refine wpListIn_append_fits _ rfl _ _ 28 rfl w1.heap.size 62 i0 3 Try.underlying28 Hi.out hz1 w1.heap.size pre.length k _ rfl (Hrow.out.alloc _) ⟨W.heap.size, 0, none⟩ 1 1 (turnP y.2).cells rfl rfl (World.news_of_block (cs := #[_, _, _]) (heap_alloc_new _ _)) (by intro u hu; simp [Pr.cells] at hu; rcases hu with rfl | rfl | rfl <;> rfl) (by omega) ?_; intro w9 hown' hgrow; obtain ⟨hv1, hv2, hr2, hk2, hb2⟩ := Hbx.out.appended (by decide) Hrow.out (by have := HB.out.size; omega) (Nat.le_of_lt hwS) hown' hgrow; have hc1 := hv1.cell; have hf1 := hv1.frozen)
      have hszW : S + 2 ≤ W.heap.size := by have := HB.out.size; omega
      refine ⟨hk2.from _, ⟨hb2.size, fun j hj hx => ?_⟩, ⟨_, hv2, by simpa using hr2, by simp⟩, HB.out.trans hb2⟩
      have hx' : ¬ (j = w1.heap.size ∨ j = S) := hx
      refine (Below.heap_setCell _ _ _ _ (fun e => hx' (Or.inr e))).trans ((hgrow.block j (by simp; omega) (fun e => by cases e; exact hx' (Or.inl rfl))).trans (Below.heap_alloc _ _ _ (by omega)))
    case done =>
      rintro D ys W hD hS2 ⟨⟨v, hbx, hrow, rfl⟩, hB⟩ hK
      have hc := hbx.cell
      have Hrow := Lib.hid hrow; have HS := Lib.hid hS2; clear hrow hS2
      gi_wp2
      refine ⟨by simp, .inl ⟨_, _, rfl, run_takeDeferred hK, ?_⟩⟩
      refine ⟨_, results_tmp2 rfl _ _ _, ?_⟩
      have e : ys.map (fun y => turnP y.2) = ps.reverse.map turnP := by
        rw [← HS.out, List.map_map]
        rfl
      refine tlc_of_row (own_more (base := w1.heap.size) (n := ys.length) ?_ B1.out.size) (B1.out.trans ((b0.trans (hB.trans (belowK_b (w := w1) (Nat.le_refl _) W D _ _ (by omega) hK rfl rfl))).mono B1.out.size))
      rw [← e]
      exact ownsRow_putObj Hrow.out _ hK rfl
    case stop =>
      rintro D c pre W _ _ h _
      exact h.elim
  · simp only [h1, if_false, Bool.false_eq_true]
    go_enter Try.func20, Try.ntmps20
    go_wp2_with (go_at_call 37; refine (validTrain_any _ _ _ ps _ Hl.out hn hT Hw.out).mono ?_; rintro e w1 ⟨rfl, b1⟩; have B1 := Lib.hid b1; clear b1)
    go_ret2
    exact tlc_of_row (ps := []) (World.ownsRow_nil _ _ _ _) B1.out
end Go.Proofs.Ytolbacgfcobmdaa
