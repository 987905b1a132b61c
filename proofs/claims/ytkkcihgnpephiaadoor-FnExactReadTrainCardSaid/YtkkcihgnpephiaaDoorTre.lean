/-
  A pair of wheels read from its word: the program's function.
-/
import Derived.Test.YtkkcihgnpephiaaDoorTrd
namespace Go.Proofs.YtkkcihgnpephiaaDoor
open Go.RowKit Go.ChangeShapes Go.WideShapes Go.Deep
attribute [local go_sem ↓] Go.wp_at_zero Go.wp_at_succ
set_option linter.unusedVariables false
set_option linter.unusedSimpArgs false
set_option maxRecDepth 100000
theorem Blk.on2 {w W w' : World} {q : Nat} {cs : Array Value} {t : TypeId} (h : Blk w q cs t) (b : Below W.heap.size W w') (hW : W.heap = w.heap) : Blk w' q cs t := h.on hW b
theorem ret3p {fn : Func} {tmps : Array Value} {W : World} {q s t : Nat} {x0 x1 x2 : Value} (hr : fn.results = #[.cell s 93, .tmp t]) (h2 : tmps.getD s undef = .pointer (some ⟨q, 0, none⟩)) (Z : Blk W q #[x0, x1, x2] 93) :
    (results fn tmps).run Tryd.prog W = .ok (.tuple #[.agg #[x0, x1, x2], tmps.getD t undef]) W := by
  have e0 := Z.cell 0
  have e1 := Z.cell 1
  have e2 := Z.cell 2
  simp at e0 e1 e2
  rw [Array.getD_eq_getD_getElem?] at h2
  simp [results, hr, h2, go_sem, e0, e1, e2]
/-- The call returns a pair, and whether it read one. -/
def RdP (r : Option Px) (w : World) (e : Ending) (w' : World) : Prop := (∃ p : Px, e = .returned (.tuple #[.agg #[.int .i16 p.a, .int .i16 p.b, .float .f32 p.l], .bool r.isSome]) ∧ ∀ q, r = some q → p = q) ∧ Below w.heap.size w w'
theorem rdp_none {w w' : World} {r : Option Px} (h : r = none) {a b : Int} {l : Nat} (hb : Below w.heap.size w w') : RdP r w (.returned (.tuple #[.agg #[.int .i16 a, .int .i16 b, .float .f32 l], .bool false])) w' := by
  subst h
  exact ⟨⟨⟨a, b, l⟩, rfl, fun q h => by cases h⟩, hb⟩
theorem rdp_some {w w' : World} {r : Option Px} {a b : Int} {l : Nat} (h : r = some ⟨a, b, l⟩) (hb : Below w.heap.size w w') : RdP r w (.returned (.tuple #[.agg #[.int .i16 a, .int .i16 b, .float .f32 l], .bool true])) w' := by
  subst h
  exact ⟨⟨⟨a, b, l⟩, rfl, fun q h => by cases h; rfl⟩, hb⟩
theorem cut_short (s sep : List UInt8) : (Lib.cut s sep).1.length ≤ s.length ∧ (Lib.cut s sep).2.1.length ≤ s.length := by
  unfold Lib.cut
  split
  · simp; omega
  · simp
theorem cutB_any (t : ByteArray) (b : UInt8) (hs : t.size ≤ 1048576) (w : World) (hM : TmAt w) : Calls Tryd.prog 108 #[.string t, .string ⟨#[b]⟩] w fun e w' => (∃ f : Bool, e = .returned (.tuple #[.string (bsOf (Lib.cut t.data.toList [b]).1), .string (bsOf (Lib.cut t.data.toList [b]).2.1), .bool f])) ∧ Below w.heap.size w w' := by
  refine (cut_any t b hs w hM).mono ?_
  rintro e w' ⟨rfl, n, rfl⟩
  exact ⟨⟨_, rfl⟩, b_drewN (Below.refl _ _) _⟩
set_option maxHeartbeats 4000000 in
theorem readPair_any (t : ByteArray) (hs : t.size ≤ 1048576) (w : World) (hT : TbAt w) (hE : TeAt w) (hM : TmAt w) : Calls Tryd.prog 73 #[.string t] w (RdP (rpI t.data.toList) w) := by
  have b0 := b_alloc (Below.refl _ w) (.cells #[.int .i16 0, .int .i16 0, .float .f32 0] 93)
  have K0 := Lib.hid (Blk.new w #[.int .i16 0, .int .i16 0, .float .f32 0] 93)
  have HT := Lib.hid (hT.below b0); have HE := Lib.hid (hE.below b0); have HM := Lib.hid (hM.below b0); have B0 := Lib.hid b0
  obtain ⟨l, hl⟩ : ∃ l, l = t.data.toList := ⟨_, rfl⟩
  have hll : l.length ≤ 1048576 := by rw [hl, ← Lib.size_eq]; exact hs
  have C1 := Lib.hid (cutB_any t 58 hs _ HM.out)
  have Hbq := Lib.hid (fun m => beq_bs m t)
  rw [← hl] at C1 Hbq ⊢
  have ey : (Lib.cut l [58]).1 = cutY l := rfl
  have ez : (Lib.cut l [58]).2.1 = cutZ l := rfl
  have ea : (Lib.cut (cutY l) [47]).1 = cutA l := rfl
  have eb : (Lib.cut (cutY l) [47]).2.1 = cutB l := rfl
  have ly : (cutY l).length ≤ 1048576 := Nat.le_trans (cut_short l [58]).1 hll
  have lz : (cutZ l).length ≤ 1048576 := Nat.le_trans (cut_short l [58]).2 hll
  have la : (cutA l).length ≤ 1048576 := Nat.le_trans (cut_short (cutY l) [47]).1 ly
  have lb : (cutB l).length ≤ 1048576 := Nat.le_trans (cut_short (cutY l) [47]).2 ly
  rw [ey, ez] at C1
  have C2 := Lib.hid (fun W h => cutB_any (bsOf (cutY l)) 47 (by rw [bsOf_size]; exact ly) W h)
  simp only [bsOf_data, ea, eb] at C2
  have PA := Lib.hid (fun W h => parseInt16_any (bsOf (cutA l)) (by rw [bsOf_size]; omega) W h)
  have PB := Lib.hid (fun W h => parseInt16_any (bsOf (cutB l)) (by rw [bsOf_size]; omega) W h)
  have PZ := Lib.hid (fun W h1 h2 => readNum_any (bsOf (cutZ l)) (by rw [bsOf_size]; omega) W h1 h2)
  simp only [bsOf_data] at PA PB PZ
  have HRI := Lib.hid (show rpI l = (match i16V (cutA l), i16V (cutB l), rdN (cutZ l) with | some m, some n, some v => if txI ⟨m, n, v⟩ = l then some ⟨m, n, v⟩ else none | _, _, _ => none) from rfl)
  have RA := Lib.hid (fun v (h : i16V (cutA l) = some v) => i16V_range h)
  have RB := Lib.hid (fun v (h : i16V (cutB l) = some v) => i16V_range h)
  have RZ := Lib.hid (fun v (h : rdN (cutZ l) = some v) => (rdN_some (x := cutZ l) (by rw [h]; rfl)).1)
  clear hT hE hM b0 hl hll ey ez ea eb ly lz la lb
  generalize rpI l = R at *
  unfold PI16 at PA PB
  generalize i16V (cutA l) = VA at *
  generalize i16V (cutB l) = VB at *
  generalize rdN (cutZ l) = VZ at *
  generalize bsOf (cutA l) = TA at *
  generalize bsOf (cutB l) = TB at *
  generalize bsOf (cutZ l) = TZ at *
  generalize bsOf (cutY l) = TY at *
  go_enter Tryd.func73, Tryd.ntmps73
  go_wp2_with fail
  refine C1.out.mono ?_
  rintro e w1 ⟨⟨g1, rfl⟩, b1⟩
  have K1 := Lib.hid (K0.out.on rfl b1); have B1 := Lib.hid (b_then B0.out b1)
  have HT1 := Lib.hid (HT.out.below b1); have HE1 := Lib.hid (HE.out.below b1); have HM1 := Lib.hid (HM.out.below b1)
  clear b1 K0 B0 HT HE HM C1
  go_wp2_with fail
  refine (C2.out _ HM1.out).mono ?_
  rintro e w2 ⟨⟨g2, rfl⟩, b2⟩
  have K2 := Lib.hid (K1.out.on rfl b2); have B2 := Lib.hid (b_then B1.out b2)
  have HT2 := Lib.hid (HT1.out.below b2); have HE2 := Lib.hid (HE1.out.below b2)
  clear b2 K1 B1 HT1 HE1 HM1 C2
  go_wp2_with fail
  refine (PA.out _ HE2.out).mono ?_
  rintro e w3 ⟨hpe, b3⟩
  have K3 := Lib.hid (K2.out.on rfl b3); have B3 := Lib.hid (b_then B2.out b3)
  have HT3 := Lib.hid (HT2.out.below b3); have HE3 := Lib.hid (HE2.out.below b3)
  clear b3 K2 B2 HT2 HE2 PA
  cases VA with
  | none =>
    obtain ⟨x, N, rfl⟩ := hpe
    have HR : Hid (R = none) := Lib.hid HRI.out
    have K2 := K3
    have B2 := B3
    (have k0 := K2.out.cell 0; have k1 := K2.out.cell 1; have k2 := K2.out.cell 2; simp at k0 k1 k2; have f0 := K2.out.frozenT 0; have f1 := K2.out.frozenT 1; have f2 := K2.out.frozenT 2)
    go_wp2
    refine bodyPost_ret (ret3p Tryd.results73 rfl (((K2.out.set 0 _).set 1 _).set 2 _)) rfl (rdp_none HR.out ?_)
    (refine Below.setCell (p := ⟨w.heap.size, 2, none⟩) ?_ (Nat.le_refl _) _; refine Below.setCell (p := ⟨w.heap.size, 1, none⟩) ?_ (Nat.le_refl _) _; refine Below.setCell (p := ⟨w.heap.size, 0, none⟩) ?_ (Nat.le_refl _) _)
    exact B2.out
  | some va =>
    obtain rfl := hpe
    go_wp2_with fail
    refine (PB.out _ HE3.out).mono ?_
    rintro e w4 ⟨hpe, b4⟩
    have K4 := Lib.hid (K3.out.on rfl b4); have B4 := Lib.hid (b_then B3.out b4)
    have HT4 := Lib.hid (HT3.out.below b4); have HE4 := Lib.hid (HE3.out.below b4)
    clear b4 K3 B3 HT3 HE3 PB
    cases VB with
    | none =>
      obtain ⟨x, N, rfl⟩ := hpe
      have HR : Hid (R = none) := Lib.hid HRI.out
      have K2 := K4
      have B2 := B4
      (have k0 := K2.out.cell 0; have k1 := K2.out.cell 1; have k2 := K2.out.cell 2; simp at k0 k1 k2; have f0 := K2.out.frozenT 0; have f1 := K2.out.frozenT 1; have f2 := K2.out.frozenT 2)
      go_wp2
      refine bodyPost_ret (ret3p Tryd.results73 rfl (((K2.out.set 0 _).set 1 _).set 2 _)) rfl (rdp_none HR.out ?_)
      (refine Below.setCell (p := ⟨w.heap.size, 2, none⟩) ?_ (Nat.le_refl _) _; refine Below.setCell (p := ⟨w.heap.size, 1, none⟩) ?_ (Nat.le_refl _) _; refine Below.setCell (p := ⟨w.heap.size, 0, none⟩) ?_ (Nat.le_refl _) _)
      exact B2.out
    | some vb =>
      obtain rfl := hpe
      go_wp2_with fail
      refine (PZ.out _ HT4.out HE4.out).mono ?_
      rintro e w5 ⟨rfl, b5⟩
      have K5 := Lib.hid (K4.out.on rfl b5); have B5 := Lib.hid (b_then B4.out b5)
      have HT5 := Lib.hid (HT4.out.below b5)
      clear b5 K4 B4 HT4 HE4 PZ
      cases VZ with
      | none =>
        have HR : Hid (R = none) := Lib.hid HRI.out
        have K2 := K5
        have B2 := B5
        (have k0 := K2.out.cell 0; have k1 := K2.out.cell 1; have k2 := K2.out.cell 2; simp at k0 k1 k2; have f0 := K2.out.frozenT 0; have f1 := K2.out.frozenT 1; have f2 := K2.out.frozenT 2)
        have e5 : rnK none = 5 := rfl
        rw [e5]
        go_wp2
        refine bodyPost_ret (ret3p Tryd.results73 rfl (((K2.out.set 0 _).set 1 _).set 2 _)) rfl (rdp_none HR.out ?_)
        (refine Below.setCell (p := ⟨w.heap.size, 2, none⟩) ?_ (Nat.le_refl _) _; refine Below.setCell (p := ⟨w.heap.size, 1, none⟩) ?_ (Nat.le_refl _) _; refine Below.setCell (p := ⟨w.heap.size, 0, none⟩) ?_ (Nat.le_refl _) _)
        exact B2.out
      | some vz =>
        have e5 : rnK (some vz) = 0 := rfl
        have e6 : rnV (some vz) = vz := rfl
        rw [e5, e6]
        have HR1 : Hid (R = if txI ⟨va, vb, vz⟩ = l then some ⟨va, vb, vz⟩ else none) := Lib.hid HRI.out
        have ra := RA.out va rfl
        have rb := RB.out vb rfl
        have wa : IntKind.i16.wrap va = va := IntWalk.i16_in _ (by omega)
        have wb : IntKind.i16.wrap vb = vb := IntWalk.i16_in _ (by omega)
        have L := Lib.hid (fun W h => pairTextI_any ⟨va, vb, vz⟩ ⟨ra, rb, RZ.out vz rfl⟩ W h)
        have T5 := Lib.hid (HT5.out.below (b_alloc (Below.refl _ _) (.cells #[.int .i16 va, .int .i16 vb, .float .f32 vz] 93)))
        have K2 := K5
        (have k0 := K2.out.cell 0; have k1 := K2.out.cell 1; have k2 := K2.out.cell 2; simp at k0 k1 k2; have f0 := K2.out.frozenT 0; have f1 := K2.out.frozenT 1; have f2 := K2.out.frozenT 2)
        clear e5 e6 ra rb K2
        go_wp2
        clear k0 k1 k2 f0 f1 f2
        have KA := Lib.hid (Blk.on K5.out (W := w5) rfl (b_alloc (Below.refl _ _) (.cells #[.int .i16 va, .int .i16 vb, .float .f32 vz] 93)))
        have BA := Lib.hid (b_alloc B5.out (.cells #[.int .i16 va, .int .i16 vb, .float .f32 vz] 93))
        clear K5 B5
        have hbq := Hbq.out (txI ⟨va, vb, vz⟩)
        have hR := HR1.out
        generalize bsOf (txI ⟨va, vb, vz⟩) = TX at *
        cases hvv : (TX.toList == t.toList)
        · rw [hvv] at hbq
          have HR : Hid (R = none) := Lib.hid (by rw [hR, if_neg (of_decide_eq_false hbq.symm)])
          clear hbq hR HR1 Hbq
          go_region_with (go_at_call 66; refine (L.out _ (T5.out.below (b_drew (Below.refl _ _)))).mono ?_; rintro e w6 ⟨rfl, b6⟩; have N6 := Blk.on2 (Blk.new w5 #[.int .i16 va, .int .i16 vb, .float .f32 vz] 93) b6 rfl; have n0 := N6.cell 0; have n1 := N6.cell 1; have n2 := N6.cell 2; simp at n0 n1 n2; clear N6; have K2 := Lib.hid (Blk.on2 KA.out b6 rfl); have B2 := Lib.hid (b_then BA.out (b_then (b_drew (Below.refl _ _)) b6)); clear b6; have k0 := K2.out.cell 0; have k1 := K2.out.cell 1; have k2 := K2.out.cell 2; simp at k0 k1 k2; have f0 := K2.out.frozenT 0; have f1 := K2.out.frozenT 1; have f2 := K2.out.frozenT 2)
          all_goals
            go_wp2
            refine bodyPost_ret (ret3p Tryd.results73 rfl (((K2.out.set 0 _).set 1 _).set 2 _)) rfl (rdp_none HR.out ?_)
            (refine Below.setCell (p := ⟨w.heap.size, 2, none⟩) ?_ (Nat.le_refl _) _; refine Below.setCell (p := ⟨w.heap.size, 1, none⟩) ?_ (Nat.le_refl _) _; refine Below.setCell (p := ⟨w.heap.size, 0, none⟩) ?_ (Nat.le_refl _) _)
            exact B2.out
        · rw [hvv] at hbq
          have HR : Hid (R = some ⟨va, vb, vz⟩) := Lib.hid (by rw [hR, if_pos (of_decide_eq_true hbq.symm)])
          clear hbq hR HR1 Hbq
          go_region_with (go_at_call 66; refine (L.out _ (T5.out.below (b_drew (Below.refl _ _)))).mono ?_; rintro e w6 ⟨rfl, b6⟩; have N6 := Blk.on2 (Blk.new w5 #[.int .i16 va, .int .i16 vb, .float .f32 vz] 93) b6 rfl; have n0 := N6.cell 0; have n1 := N6.cell 1; have n2 := N6.cell 2; simp at n0 n1 n2; clear N6; have K2 := Lib.hid (Blk.on2 KA.out b6 rfl); have B2 := Lib.hid (b_then BA.out (b_then (b_drew (Below.refl _ _)) b6)); clear b6; have k0 := K2.out.cell 0; have k1 := K2.out.cell 1; have k2 := K2.out.cell 2; simp at k0 k1 k2; have f0 := K2.out.frozenT 0; have f1 := K2.out.frozenT 1; have f2 := K2.out.frozenT 2)
          all_goals
            go_wp2
            refine bodyPost_ret (ret3p Tryd.results73 rfl (((K2.out.set 0 _).set 1 _).set 2 _)) rfl (rdp_some HR.out ?_)
            (refine Below.setCell (p := ⟨w.heap.size, 2, none⟩) ?_ (Nat.le_refl _) _; refine Below.setCell (p := ⟨w.heap.size, 1, none⟩) ?_ (Nat.le_refl _) _; refine Below.setCell (p := ⟨w.heap.size, 0, none⟩) ?_ (Nat.le_refl _) _)
            exact B2.out
end Go.Proofs.YtkkcihgnpephiaaDoor
