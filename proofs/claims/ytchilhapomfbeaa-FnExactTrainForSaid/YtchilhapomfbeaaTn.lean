/-
  TrainFor: both sides.
-/
import Derived.Test.YtchilhapomfbeaaCg
import Derived.Test.YtchilhapomfbeaaPairS
import Derived.Test.YtchilhapomfbeaaBlk
namespace Go.Proofs.Ytchilhapomfbeaa
open Go.RowKit Go.ChangeShapes Go.WideShapes Go.Deep
attribute [local go_sem ↓] Go.wp_at_zero Go.wp_at_succ
set_option linter.unusedVariables false
set_option linter.unusedSimpArgs false
set_option maxRecDepth 100000
/-- The call returns a list of pairs of its own, and a code. -/
def RTn (ps : List Px) (k : Int) (w : World) (e : Ending) (w' : World) : Prop :=
  ∃ A n c, e = .returned (.tuple #[.slice A n c, .int .i64 k]) ∧ ps.length = n ∧ Px.L w' w'.heap.size A ps ∧ (0 < n → ∃ b, A = some ⟨b, 0, none⟩ ∧ w'.there b 0 (n * 3)) ∧ (∀ a, A = some a → w.heap.size ≤ a.block ∧ a.block < w'.heap.size) ∧ Below w.heap.size w w'
def trainC (zs : List Int) (C : Ch) : List Px := if codeW zs (chL C) = 0 then [⟨zs.getD C.a.toNat 0, zs.getD C.b.toNat 0, 0⟩, ⟨zs.getD C.c.toNat 0, zs.getD C.d.toNat 0, 0⟩] else []
theorem tn_none (k : Int) {w w' : World} (hb : Below w.heap.size w w') : RTn [] k w (.returned (.tuple #[.slice none 0 0, .int .i64 k])) w' :=
  ⟨none, 0, 0, rfl, rfl, fun h => absurd h (by simp), fun h => absurd h (by omega), fun a h => (by cases h), hb⟩
theorem tn_empty (k : Int) {w w' : World} {q : Nat} (hq : w.heap.size ≤ q) (hl : q < w'.heap.size) (hb : Below w.heap.size w w') : RTn [] k w (.returned (.tuple #[.slice (some ⟨q, 0, none⟩) 0 0, .int .i64 k])) w' :=
  ⟨_, 0, 0, rfl, rfl, fun h => absurd h (by simp), fun h => absurd h (by omega), fun a h => (by cases h; exact ⟨hq, hl⟩), hb⟩
theorem tn_two {x y u v k : Int} {w w' : World} {q : Nat} {t : TypeId} (hq : w.heap.size ≤ q) (Z : Blk w' q #[.int .i16 x, .int .i16 y, .float .f32 0, .int .i16 u, .int .i16 v, .float .f32 0] t) (hb : Below w.heap.size w w') :
    RTn [⟨x, y, 0⟩, ⟨u, v, 0⟩] k w (.returned (.tuple #[.slice (some ⟨q, 0, none⟩) 2 2, .int .i64 k])) w' := by
  refine ⟨_, 2, 2, rfl, rfl, fun _ => ⟨q, 0, rfl, Z.lt, fun i p hp => ?_⟩, fun _ => ⟨q, rfl, fun j hj => ?_⟩, fun a h => (by cases h; exact ⟨hq, Z.lt⟩), hb⟩
  · have e0 := Z.cell 0; have e1 := Z.cell 1; have e2 := Z.cell 2; have e3 := Z.cell 3; have e4 := Z.cell 4; have e5 := Z.cell 5
    simp at e0 e1 e2 e3 e4 e5
    intro j c hj
    match i, hp with
    | 0, hp =>
      simp at hp; subst hp
      match j, hj with
      | 0, hj => simp [Px.cells] at hj; subst hj; simpa using e0
      | 1, hj => simp [Px.cells] at hj; subst hj; simpa using e1
      | 2, hj => simp [Px.cells] at hj; subst hj; simpa using e2
    | 1, hp =>
      simp at hp; subst hp
      match j, hj with
      | 0, hj => simp [Px.cells] at hj; subst hj; simpa using e3
      | 1, hj => simp [Px.cells] at hj; subst hj; simpa using e4
      | 2, hj => simp [Px.cells] at hj; subst hj; simpa using e5
  · have hf := Z.frozen (0 + j)
    have hc := Z.cell (0 + j)
    refine ⟨?_, hf⟩
    rw [hc]
    have : j < 6 := by omega
    simp
    omega
set_option maxHeartbeats 4000000 in
theorem specTrain_any (A : Option Addr) (n k : Nat) (zs : List Int) (C : Ch) (w : World) (hl : zs.length = n) (hn : n ≤ 1048576) (hw : ∀ z ∈ zs, I16 z) (hT : Ii w w.heap.size A zs) (hC : I16 C.a ∧ I16 C.b ∧ I16 C.c ∧ I16 C.d) :
    Calls Try.prog 15 #[.slice A n k, .agg #[.int .i16 C.a, .int .i16 C.b, .int .i16 C.c, .int .i16 C.d]] w (RTn (trainC zs C) (codeW zs (chL C)) w) := by
  obtain ⟨a, b, c, d⟩ := C
  obtain ⟨ha, hb, hc, hd⟩ := hC
  unfold trainC chL
  dsimp only at *
  have HT := Lib.hid hT; clear hT
  have Hl := Lib.hid hl; clear hl
  have Hw := Lib.hid hw; clear hw
  have hE := fun W (hb0 : Below w.heap.size w W) => l05Choice_any A n k zs a b c d W Hl.out hn Hw.out (HT.out.keep hb0) ha hb hc hd
  obtain ⟨K, hK0⟩ : ∃ K, codeW zs [a, b, c, d] = K := ⟨_, rfl⟩
  rw [hK0] at hE ⊢
  have HE := Lib.hid hE
  clear hE ha hb hc hd
  have h0 := Lib.hid (AtCh.new w ⟨a, b, c, d⟩)
  obtain ⟨c0, c1, c2, c3⟩ := h0.out.cells
  dsimp only at c0 c1 c2 c3
  rcases codeW_cases hK0 with rfl | rfl | rfl | rfl
  · obtain ⟨hz, hin⟩ := codeW_zero hK0
    clear hK0
    obtain ⟨ia, x, rfl, hx, hi1, x1, x2, wi1⟩ := wheel_of hz (inB_at hin (x := a) (by simp))
    obtain ⟨ib, y, rfl, hy, hi2, y1, y2, wi2⟩ := wheel_of hz (inB_at hin (x := b) (by simp))
    obtain ⟨ic, u, rfl, hu, hi3, u1, u2, wi3⟩ := wheel_of hz (inB_at hin (x := c) (by simp))
    obtain ⟨id, v, rfl, hv, hi4, v1, v2, wi4⟩ := wheel_of hz (inB_at hin (x := d) (by simp))
    have hr : ([⟨zs.getD (ia : Int).toNat 0, zs.getD (ib : Int).toNat 0, 0⟩, ⟨zs.getD (ic : Int).toNat 0, zs.getD (id : Int).toNat 0, 0⟩] : List Px) = [⟨x, y, 0⟩, ⟨u, v, 0⟩] := by
      rw [Int.toNat_natCast, Int.toNat_natCast, Int.toNat_natCast, Int.toNat_natCast, getD_of hx, getD_of hy, getD_of hu, getD_of hv]
    rw [if_pos rfl, hr]
    rw [Hl.out] at hi1 hi2 hi3 hi4
    obtain ⟨bl, off, rfl, hbs, hcs⟩ := HT.out (by rw [Hl.out]; omega)
    have e0 : Hid (∀ W, Below w.heap.size w W → W.cell? ⟨bl, off + ia, none⟩ = some (.int .i16 x)) := fun W hb => (World.cell?_of_block (a := ⟨bl, off + ia, none⟩) (hb.block bl hbs)).trans (hcs ia x hx)
    have e1 : Hid (∀ W, Below w.heap.size w W → W.cell? ⟨bl, off + ib, none⟩ = some (.int .i16 y)) := fun W hb => (World.cell?_of_block (a := ⟨bl, off + ib, none⟩) (hb.block bl hbs)).trans (hcs ib y hy)
    have e2 : Hid (∀ W, Below w.heap.size w W → W.cell? ⟨bl, off + ic, none⟩ = some (.int .i16 u)) := fun W hb => (World.cell?_of_block (a := ⟨bl, off + ic, none⟩) (hb.block bl hbs)).trans (hcs ic u hu)
    have e3 : Hid (∀ W, Below w.heap.size w W → W.cell? ⟨bl, off + id, none⟩ = some (.int .i16 v)) := fun W hb => (World.cell?_of_block (a := ⟨bl, off + id, none⟩) (hb.block bl hbs)).trans (hcs id v hv)
    have z0 : (0 : Int) ≤ (ia : Int) := by omega
    have z1 : (ia : Int) < (n : Int) := by omega
    have z2 : (0 : Int) ≤ (ib : Int) := by omega
    have z3 : (ib : Int) < (n : Int) := by omega
    have z4 : (0 : Int) ≤ (ic : Int) := by omega
    have z5 : (ic : Int) < (n : Int) := by omega
    have z6 : (0 : Int) ≤ (id : Int) := by omega
    have z7 : (id : Int) < (n : Int) := by omega
    clear hcs hx hy hu hv hz hin x1 x2 y1 y2 u1 u2 v1 v2 hi1 hi2 hi3 hi4 wi1 wi2 wi3 wi4 hr
    go_enter Try.func15, Try.ntmps15
    go_wp2_with (go_at_call 60; refine (HE.out _ (by (repeat (first | exact Below.refl _ _ | refine b_drewN ?_ _ | refine b_drew ?_ | refine b_alloc ?_ _ | refine b_then ?_ (by assumption))))).mono ?_; rintro e w1 ⟨rfl, b1⟩; have bb : Below w.heap.size w w1 := (by (repeat (first | exact Below.refl _ _ | refine b_drewN ?_ _ | refine b_drew ?_ | refine b_alloc ?_ _ | refine b_then ?_ (by assumption)))); obtain ⟨d0, d1, d2, d3⟩ := (h0.out.on (by rfl) b1).cells; dsimp only at d0 d1 d2 d3; have q0 := e0.out w1 bb; have q1 := e1.out w1 bb; have q2 := e2.out w1 bb; have q3 := e3.out w1 bb; have BB := Lib.hid bb; clear bb b1)
    (refine wp_region_still_tail 22 (by kernel_rfl) (by kernel_rfl) ?_; (try change wpStill _ _ (World.drew _) _ _ _); simp only [List.take_succ_cons, List.take_zero, List.drop_succ_cons, List.drop_zero]; (repeat still_step); (try refine wpStill_nil ?_); (try change wpList _ _ _ _ _ (World.drew _)))
    go_wp2
    go_ret2
    exact tn_two (q := w1.heap.size) BB.out.size (Blk.new w1.drew _ _) (b_alloc (b_drew BB.out) _)
  all_goals
    rw [if_neg (by decide)]
    clear hK0
    go_enter Try.func15, Try.ntmps15
    go_wp2_with (go_at_call 60; refine (HE.out _ (by (repeat (first | exact Below.refl _ _ | refine b_drewN ?_ _ | refine b_drew ?_ | refine b_alloc ?_ _ | refine b_then ?_ (by assumption))))).mono ?_; rintro e w1 ⟨rfl, b1⟩; have bb : Below w.heap.size w w1 := (by (repeat (first | exact Below.refl _ _ | refine b_drewN ?_ _ | refine b_drew ?_ | refine b_alloc ?_ _ | refine b_then ?_ (by assumption)))); have BB := Lib.hid bb; clear bb b1)
    go_ret2
    exact tn_empty _ (q := w1.heap.size) BB.out.size (by simp) (b_alloc BB.out _)

set_option maxHeartbeats 4000000 in
theorem implTrain_any (A : Option Addr) (n k : Nat) (zs : List Int) (C : Ch) (w : World) (hl : zs.length = n) (hn : n ≤ 1048576) (hw : ∀ z ∈ zs, I16 z) (hT : Ii w w.heap.size A zs) (hC : I16 C.a ∧ I16 C.b ∧ I16 C.c ∧ I16 C.d) :
    Calls Try.prog 18 #[.slice A n k, .agg #[.int .i16 C.a, .int .i16 C.b, .int .i16 C.c, .int .i16 C.d]] w (RTn (trainC zs C) (codeW zs (chL C)) w) := by
  obtain ⟨a, b, c, d⟩ := C
  obtain ⟨ha, hb, hc, hd⟩ := hC
  unfold trainC chL
  dsimp only at *
  have HT := Lib.hid hT; clear hT
  have Hl := Lib.hid hl; clear hl
  have Hw := Lib.hid hw; clear hw
  obtain ⟨K, hK0⟩ : ∃ K, codeW zs [a, b, c, d] = K := ⟨_, rfl⟩
  have hE := fun W (hb0 : Below w.heap.size w W) => choiceError_is A n k zs a b c d W hK0 Hl.out hn Hw.out (HT.out.keep hb0) ha hb hc hd
  have HE := Lib.hid hE
  clear hE ha hb hc hd
  rw [hK0]
  have h0 := Lib.hid (AtCh.new w ⟨a, b, c, d⟩)
  have hs0 : Hid (w.heap.size < (w.alloc (.cells #[.int .i16 a, .int .i16 b, .int .i16 c, .int .i16 d] 31)).heap.size) := h0.out.lt
  obtain ⟨c0, c1, c2, c3⟩ := h0.out.cells
  dsimp only at c0 c1 c2 c3
  rcases codeW_cases hK0 with rfl | rfl | rfl | rfl
  · obtain ⟨hz, hin⟩ := codeW_zero hK0
    clear hK0
    obtain ⟨ia, x, rfl, hx, hi1, x1, x2, wi1⟩ := wheel_of hz (inB_at hin (x := a) (by simp))
    obtain ⟨ib, y, rfl, hy, hi2, y1, y2, wi2⟩ := wheel_of hz (inB_at hin (x := b) (by simp))
    obtain ⟨ic, u, rfl, hu, hi3, u1, u2, wi3⟩ := wheel_of hz (inB_at hin (x := c) (by simp))
    obtain ⟨id, v, rfl, hv, hi4, v1, v2, wi4⟩ := wheel_of hz (inB_at hin (x := d) (by simp))
    have hr : ([⟨zs.getD (ia : Int).toNat 0, zs.getD (ib : Int).toNat 0, 0⟩, ⟨zs.getD (ic : Int).toNat 0, zs.getD (id : Int).toNat 0, 0⟩] : List Px) = [⟨x, y, 0⟩, ⟨u, v, 0⟩] := by
      rw [Int.toNat_natCast, Int.toNat_natCast, Int.toNat_natCast, Int.toNat_natCast, getD_of hx, getD_of hy, getD_of hu, getD_of hv]
    rw [if_pos rfl, hr]
    have Hx := Lib.hid hx; have Hy := Lib.hid hy; have Hu := Lib.hid hu; have Hv := Lib.hid hv
    clear hx hy hu hv hz hin x1 x2 y1 y2 u1 u2 v1 v2 hi1 hi2 hi3 hi4 wi1 wi2 wi3 wi4 hr
    go_enter Try.func18, Try.ntmps18
    go_wp2_with (go_at_call 61; refine (HE.out _ (by (repeat (first | exact Below.refl _ _ | refine b_drewN ?_ _ | refine b_drew ?_ | refine b_alloc ?_ _ | refine b_then ?_ (by assumption))))).mono ?_; rintro e w1 ⟨rfl, b1⟩; have bb : Below w.heap.size w w1 := (by (repeat (first | exact Below.refl _ _ | refine b_drewN ?_ _ | refine b_drew ?_ | refine b_alloc ?_ _ | refine b_then ?_ (by assumption)))); have kk := h0.out.on (by rfl) b1; obtain ⟨d0, d1, d2, d3⟩ := kk.cells; dsimp only at d0 d1 d2 d3; have KK := Lib.hid kk; have BB := Lib.hid bb; clear bb b1 kk)
    have HT1 := Lib.hid (HT.out.keep BB.out)
    have hl1 := Lib.hid KK.out.lt
    clear c0 c1 c2 c3
    go_cut [4, 5] (fun s4 s5 wx => ∃ q, s4 = .slice (some ⟨q, 0, none⟩) 2 2 ∧ s5 = .int .i64 0 ∧ w1.heap.size ≤ q ∧ Blk wx q #[.int .i16 x, .int .i16 y, .float .f32 0, .int .i16 u, .int .i16 v, .float .f32 0] 88 ∧ Below w1.heap.size w1 wx)
    case first =>
      go_region_law (first
        | (go_simp; go_at_call 62; (with_reducible refine (pairIn_any A n k ia ib zs x y _ Hl.out Hx.out Hy.out hn (HT1.out.keep ?_)).mono ?_); (focus (repeat (first | exact Below.refl _ _ | refine b_drewN ?_ _ | refine b_drew ?_ | refine b_alloc ?_ _ | refine b_then ?_ (by assumption)))); rintro e w2 ⟨rfl, b2⟩; (try (obtain ⟨f0, f1, f2, f3⟩ := (AtCh.under KK.out hl1.out (show Below w1.heap.size w1 w2 by (repeat (first | exact Below.refl _ _ | refine b_drewN ?_ _ | refine b_drew ?_ | refine b_alloc ?_ _ | refine b_then ?_ (by assumption))))).cells; dsimp only at f0 f1 f2 f3)); dsimp only)
        | (go_simp; go_at_call 62; (with_reducible refine (pairIn_any A n k ic id zs u v _ Hl.out Hu.out Hv.out hn (HT1.out.keep ?_)).mono ?_); (focus (repeat (first | exact Below.refl _ _ | refine b_drewN ?_ _ | refine b_drew ?_ | refine b_alloc ?_ _ | refine b_then ?_ (by assumption)))); rintro e w3 ⟨rfl, b3⟩; (try (obtain ⟨f0, f1, f2, f3⟩ := (AtCh.under KK.out hl1.out (show Below w1.heap.size w1 w3 by (repeat (first | exact Below.refl _ _ | refine b_drewN ?_ _ | refine b_drew ?_ | refine b_alloc ?_ _ | refine b_then ?_ (by assumption))))).cells; dsimp only at f0 f1 f2 f3)); dsimp only))
      all_goals
        go_wp2_with fail
        go_meet
        refine ⟨_, rfl, rfl, ?_, ?_, ?_⟩
        · first | exact (show Below w1.heap.size w1 w3 by (repeat (first | exact Below.refl _ _ | refine b_drewN ?_ _ | refine b_drew ?_ | refine b_alloc ?_ _ | refine b_then ?_ (by assumption)))).size | exact (show Below w1.heap.size w1 w2 by (repeat (first | exact Below.refl _ _ | refine b_drewN ?_ _ | refine b_drew ?_ | refine b_alloc ?_ _ | refine b_then ?_ (by assumption)))).size
        · first | exact Blk.new _ _ _ | exact (Blk.new _ _ _).draws 1
        · (repeat (first | exact Below.refl _ _ | refine b_drewN ?_ _ | refine b_drew ?_ | refine b_alloc ?_ _ | refine b_then ?_ (by assumption)))
    case rest =>
      obtain ⟨q, rfl, rfl, hq, Z, hbc⟩ := hcut
      have BC := Lib.hid (b_then BB.out hbc)
      have Z9 := Lib.hid Z
      have hq9 := Lib.hid (Nat.le_trans BB.out.size hq)
      clear Z hq hbc d0 d1 d2 d3
      go_wp2
      go_ret2
      exact tn_two hq9.out Z9.out BC.out
  all_goals
    rw [if_neg (by decide)]
    clear hK0
    go_enter Try.func18, Try.ntmps18
    go_wp2_with (go_at_call 61; refine (HE.out _ (by (repeat (first | exact Below.refl _ _ | refine b_drewN ?_ _ | refine b_drew ?_ | refine b_alloc ?_ _ | refine b_then ?_ (by assumption))))).mono ?_; rintro e w1 ⟨rfl, b1⟩; have bb : Below w.heap.size w w1 := (by (repeat (first | exact Below.refl _ _ | refine b_drewN ?_ _ | refine b_drew ?_ | refine b_alloc ?_ _ | refine b_then ?_ (by assumption)))); have BB := Lib.hid bb; clear bb b1)
    go_ret2
    exact tn_none _ BB.out
end Go.Proofs.Ytchilhapomfbeaa
