/-
  The best choice: the model's search.
-/
import Derived.Test.YtaodpopghacmaaaChm
import Derived.Test.YtaodpopghacmaaaAsk
namespace Go.Proofs.Ytaodpopghacmaaa
open Go.RowKit Go.ChangeShapes Go.WideShapes Go.Deep
attribute [local go_sem ↓] Go.wp_at_zero Go.wp_at_succ
set_option linter.unusedVariables false
set_option linter.unusedSimpArgs false
set_option maxRecDepth 100000
theorem prU_in {n a b : Nat} (ha : a < n) (hb : b < n) (h : ¬ a = b) : (a, b) ∈ prU n n 0 := by
  unfold prU
  refine List.mem_append_left _ (List.mem_flatMap.2 ⟨a, List.mem_range.2 ha, ?_⟩)
  unfold rowU
  refine List.mem_map.2 ⟨b, List.mem_filter.2 ⟨List.mem_range.2 hb, ?_⟩, rfl⟩
  simpa using fun e => h e.symm
theorem chU_in {n : Nat} (h : 4 ≤ n) : ((0, 1), (2, 3)) ∈ chU n := by
  unfold chU chC
  refine List.mem_flatMap.2 ⟨(0, 1), prU_in (by omega) (by omega) (by omega), ?_⟩
  unfold rowC
  exact List.mem_map.2 ⟨(2, 3), List.mem_filter.2 ⟨prU_in (by omega) (by omega) (by omega), rfl⟩, rfl⟩
theorem chU_few {n : Nat} (h : n < 4) : chU n = [] := by
  match n, h with
  | 0, _ => rfl
  | 1, _ => rfl
  | 2, _ => rfl
  | 3, _ => decide
/-- What the list has in its cells. -/
def CcIn (W : World) (g : Nat) (ps : List ((Nat × Nat) × (Nat × Nat))) : Prop :=
  ∀ (i : Nat) (x : (Nat × Nat) × (Nat × Nat)), ps[i]? = some x → W.cell? ⟨g, i * 4, none⟩ = some (.int .i16 (x.1.1 : Int)) ∧ W.cell? ⟨g, i * 4 + 1, none⟩ = some (.int .i16 (x.1.2 : Int)) ∧ W.cell? ⟨g, i * 4 + 2, none⟩ = some (.int .i16 (x.2.1 : Int)) ∧ W.cell? ⟨g, i * 4 + 3, none⟩ = some (.int .i16 (x.2.2 : Int))
theorem cellsC_at : ∀ (ps : List ((Nat × Nat) × (Nat × Nat))) (i : Nat) (p : (Nat × Nat) × (Nat × Nat)), ps[i]? = some p → ∀ j u, (chK p).toList[j]? = some u → (cellsC ps)[i * 4 + j]? = some u
  | [], i, p, h, _, _, _ => by simp at h
  | x :: l, 0, p, h, j, u, hu => by
    simp at h
    subst h
    show ((chK x).toList ++ cellsC l)[0 * 4 + j]? = some u
    rw [Nat.zero_mul, Nat.zero_add, List.getElem?_append_left (List.getElem?_eq_some_iff.1 hu).1]
    exact hu
  | x :: l, i + 1, p, h, j, u, hu => by
    have h' : l[i]? = some p := by simpa using h
    have := cellsC_at l i p h' j u hu
    show ((chK x).toList ++ cellsC l)[(i + 1) * 4 + j]? = some u
    rw [List.getElem?_append_right (by simp; omega)]
    rw [show (i + 1) * 4 + j - (chK x).toList.length = i * 4 + j by simp; omega]
    exact this
theorem cc_of_row {w : World} {base n : Nat} {v : Value} {ps : List ((Nat × Nat) × (Nat × Nat))} (h : w.ownsRow base 49 4 v n (cellsC ps)) (hp : 0 < ps.length) : ∃ g c, v = .slice (some ⟨g, 0, none⟩) ps.length c ∧ base ≤ g ∧ g < w.heap.size ∧ CcIn w g ps := by
  obtain ⟨h1, h2⟩ := h
  rw [cellsC_len] at h1
  have h1 : ps.length = n := by omega
  rcases h2 with ⟨rfl, h0⟩ | ⟨g, cap, cur, rfl, hg, hh, hnc, hcap, hcs, ht⟩
  · omega
  · have hlt : g < w.heap.size := by
      rcases Nat.lt_or_ge g w.heap.size with hlt | hge
      · exact hlt
      · rw [Array.getElem?_eq_none hge] at hh; cases hh
    have hcell : ∀ k u, (cellsC ps)[k]? = some u → w.cell? ⟨g, k, none⟩ = some u := fun k u hu => by
      rw [cell_of_row _ _ k _ _ _ hh]
      have hj : k < n * 4 := by rw [← h1, ← cellsC_len]; exact (List.getElem?_eq_some_iff.1 hu).1
      have e1 := congrArg (fun l => l[k]?) ht
      simp only [List.getElem?_take, hu] at e1
      rw [if_pos hj] at e1
      simpa using e1
    refine ⟨g, cap, by rw [h1], hg, hlt, fun i x hx => ?_⟩
    exact ⟨hcell _ _ (cellsC_at ps i x hx 0 _ rfl), hcell _ _ (cellsC_at ps i x hx 1 _ rfl), hcell _ _ (cellsC_at ps i x hx 2 _ rfl), hcell _ _ (cellsC_at ps i x hx 3 _ rfl)⟩
theorem CcIn.under {W W' : World} {g : Nat} {ps : List ((Nat × Nat) × (Nat × Nat))} (h : CcIn W g ps) {B : Nat} (hb : Below B W W') (hg : g < B) : CcIn W' g ps := fun i x hx => by
  obtain ⟨h0, h1, h2, h3⟩ := h i x hx
  exact ⟨(World.cell?_of_block (a := ⟨g, i * 4, none⟩) (hb.block g hg)).trans h0, (World.cell?_of_block (a := ⟨g, i * 4 + 1, none⟩) (hb.block g hg)).trans h1, (World.cell?_of_block (a := ⟨g, i * 4 + 2, none⟩) (hb.block g hg)).trans h2, (World.cell?_of_block (a := ⟨g, i * 4 + 3, none⟩) (hb.block g hg)).trans h3⟩
set_option maxHeartbeats 8000000 in
theorem specBestC_any (A : Option Addr) (n c : Nat) (zs : List Int) (t : Nat) (w : World) (hl : zs.length = n) (hn : n ≤ 1048576) (hw : ∀ z ∈ zs, I16 z) (hT : Ii w w.heap.size A zs) {K0 : Int} (hK0 : codeX (okZ zs) (tgB t) = K0) :
    Calls Try.prog 31 #[.slice A n c, .float .f32 t] w (RV (.tuple #[.agg (chK (bcR zs n t K0).1), .float .f32 (bcR zs n t K0).2, .int .i64 (bcK n K0)]) w) := by
  obtain ⟨R, hR⟩ : ∃ R, bcR zs n t K0 = R := ⟨_, rfl⟩
  obtain ⟨K2, hK2⟩ : ∃ K2, bcK n K0 = K2 := ⟨_, rfl⟩
  have HR := Lib.hid hR; have HK2 := Lib.hid hK2
  rw [hR, hK2]
  clear hR hK2
  have hB0 := fun W (h : Ii W W.heap.size A zs) => l05Asked_any A n c zs t 0 W hl hn hw h
  unfold askK at hB0
  simp only [pt_zero, Bool.and_true, hK0] at hB0
  have hB := Lib.hid hB0
  have HT := Lib.hid hT
  clear hB0 hT
  obtain ⟨W1, hW1⟩ : ∃ W1, w.alloc (.cells (chK ((0, 0), (0, 0))) 49) = W1 := ⟨_, rfl⟩
  have xr : Blk W1 w.heap.size (chK ((0, 0), (0, 0))) 49 := by rw [← hW1]; exact Blk.new _ _ _
  have B1 : Hid (Below w.heap.size w W1) := by rw [← hW1]; exact b_alloc (Below.refl _ _) _
  dsimp only [chK] at hW1
  simp only [Int.natCast_zero] at hW1
  rcases codeX_cases hK0 with rfl | rfl | rfl
  rotate_left
  · have hr := HR.out; have hk := HK2.out
    rw [show bcR zs n t 1 = (((0, 0), (0, 0)), 0) from rfl] at hr
    rw [show bcK n 1 = 1 from rfl] at hk
    subst hr hk
    clear HR HK2 hK0
    go_enter Try.func31, Try.ntmps31
    go_wp2_with fail
    try simp only [hW1]
    refine (hB.out _ (HT.out.keep B1.out)).mono ?_
    rintro e w1 ⟨rfl, b1⟩
    have yr := xr.under b1
    have B2 := Lib.hid (b_then B1.out b1)
    have c0 := yr.cell 0; have c1 := yr.cell 1; have c2 := yr.cell 2; have c3 := yr.cell 3
    simp at c0 c1 c2 c3
    have f0 := yr.frozen 0; have f1 := yr.frozen 1; have f2 := yr.frozen 2; have f3 := yr.frozen 3
    clear b1
    go_wp2
    exact bodyPost_ret (ret_ch (x := ((0, 0), (0, 0))) Try.results31 rfl (put4 yr 0 0 0 0)) rfl ⟨rfl, put4_below B2.out (Nat.le_refl _) _ _ _ _⟩
  · have hr := HR.out; have hk := HK2.out
    rw [show bcR zs n t 2 = (((0, 0), (0, 0)), 0) from rfl] at hr
    rw [show bcK n 2 = 2 from rfl] at hk
    subst hr hk
    clear HR HK2 hK0
    go_enter Try.func31, Try.ntmps31
    go_wp2_with fail
    try simp only [hW1]
    refine (hB.out _ (HT.out.keep B1.out)).mono ?_
    rintro e w1 ⟨rfl, b1⟩
    have yr := xr.under b1
    have B2 := Lib.hid (b_then B1.out b1)
    have c0 := yr.cell 0; have c1 := yr.cell 1; have c2 := yr.cell 2; have c3 := yr.cell 3
    simp at c0 c1 c2 c3
    have f0 := yr.frozen 0; have f1 := yr.frozen 1; have f2 := yr.frozen 2; have f3 := yr.frozen 3
    clear b1
    go_wp2
    exact bodyPost_ret (ret_ch (x := ((0, 0), (0, 0))) Try.results31 rfl (put4 yr 0 0 0 0)) rfl ⟨rfl, put4_below B2.out (Nat.le_refl _) _ _ _ _⟩
  · obtain ⟨hz, ht⟩ := codeX_zero hK0
    have hlen := (okZ_at hz).1
    rw [hl] at hlen
    obtain ⟨hn2, hn24⟩ := hlen
    have wn : IntKind.i16.wrap (n : Int) = (n : Int) := i16_small _ (by omega) (by omega)
    have hC := Lib.hid (fun W => l05Choices_any n hn24 W)
    by_cases h4 : n < 4
    · have hr := HR.out; have hk := HK2.out
      rw [show bcR zs n t 0 = (((0, 0), (0, 0)), 0) from if_pos h4] at hr
      rw [show bcK n 0 = 6 from if_pos h4] at hk
      subst hr hk
      have hC2 := hC.out
      rw [chU_few h4] at hC2
      have HC2 := Lib.hid hC2
      clear HR HK2 hK0 hC hC2 h4
      go_enter Try.func31, Try.ntmps31
      go_wp2_with fail
      try simp only [hW1]
      refine (hB.out _ (HT.out.keep B1.out)).mono ?_
      rintro e w1 ⟨rfl, b1⟩
      have yr := xr.under b1
      have B2 := Lib.hid (b_then B1.out b1)
      clear b1
      go_wp2_with fail
      refine (HC2.out _).mono ?_
      rintro e w2 ⟨v, rfl, o2, b2⟩
      obtain ⟨A2, c2, rfl⟩ : ∃ A2 c2, v = .slice A2 0 c2 := by
        obtain ⟨_, h2⟩ := o2
        rcases h2 with ⟨rfl, h0⟩ | ⟨g, cap, cur, rfl, _⟩
        · exact ⟨_, _, rfl⟩
        · exact ⟨_, _, rfl⟩
      have zr := yr.under b2
      have B3 := Lib.hid (b_then B2.out b2)
      clear b2 o2
      have c0 := zr.cell 0; have c1 := zr.cell 1; have c2 := zr.cell 2; have c3 := zr.cell 3
      simp at c0 c1 c2 c3
      have f0 := zr.frozen 0; have f1 := zr.frozen 1; have f2 := zr.frozen 2; have f3 := zr.frozen 3
      go_wp2
      exact bodyPost_ret (ret_ch (x := ((0, 0), (0, 0))) Try.results31 rfl (put4 zr 0 0 0 0)) rfl ⟨rfl, put4_below B3.out (Nat.le_refl _) _ _ _ _⟩
    · have HR2 : Hid (bestG (offX zs t) (chU n) (((0, 0), (0, 0)), 2139095039) = R) := Lib.hid (by have := HR.out; rwa [show bcR zs n t 0 = bestG (offX zs t) (chU n) (((0, 0), (0, 0)), 2139095039) from if_neg h4] at this)
      have hk := HK2.out
      rw [show bcK n 0 = 0 from if_neg h4] at hk
      subst hk
      have hin := chU_in (n := n) (by omega)
      obtain ⟨ps, hps⟩ : ∃ ps, chU n = ps := ⟨_, rfl⟩
      have Hmem := Lib.hid (fun x (hx : x ∈ ps) => (show Wn n x from chU_mem (by rw [hps]; exact hx)))
      have hps1 : 0 < ps.length := by rw [← hps]; exact List.length_pos_of_mem hin
      obtain ⟨x0, hx0⟩ : ∃ x0, ps[0]? = some x0 := ⟨_, List.getElem?_eq_getElem hps1⟩
      have hpl : ps.length < 4294967296 := by
        rw [← hps]
        have h1 := chC_len (prU_576 hn24) (prU n n 0)
        have h2 := prU_576 hn24
        show (chC _ _).length < _
        omega
      have hC2 := hC.out
      rw [hps] at hC2 HR2
      have HC2 := Lib.hid hC2
      have Hoff := Lib.hid (fun x (hx : Wn n x) => offX_num hz ht (x := x) (by rw [hl]; exact hx))
      have HOD : Hid (∀ x, offC (facC zs x) t = offX zs t x) := Lib.hid fun x => rfl
      have HZ := Lib.hid hz; have Hl := Lib.hid hl
      clear HR HK2 hK0 hC hC2 h4 hz ht hw hin hps
      obtain ⟨off, hoff⟩ : ∃ off, offX zs t = off := ⟨_, rfl⟩
      rw [hoff] at Hoff HOD HR2
      clear hoff
      have HF := Lib.hid (fun (x : (Nat × Nat) × (Nat × Nat)) (hx : Wn n x) (W : World) (hb : Below w.heap.size w W) => specFac_any A n c zs x W Hl.out hn HZ.out hx (HT.out.keep hb))
      go_enter Try.func31, Try.ntmps31
      go_wp2_with fail
      try simp only [hW1]
      refine (hB.out _ (HT.out.keep B1.out)).mono ?_
      rintro e w1 ⟨rfl, b1⟩
      have yr := xr.under b1
      have B2 := Lib.hid (b_then B1.out b1)
      clear b1 xr hW1 B1
      go_wp2_with fail
      refine (HC2.out _).mono ?_
      rintro e w2 ⟨v, rfl, o2, b2⟩
      obtain ⟨g, c2, rfl, hg1, hg2, hcc⟩ := cc_of_row o2 hps1
      have zr := yr.under b2
      have B3 := Lib.hid (b_then B2.out b2)
      clear b2 o2 yr B2
      obtain ⟨p0, p1, p2, p3⟩ := hcc 0 x0 hx0
      simp only [Nat.zero_mul, Nat.zero_add] at p0 p1 p2 p3
      have lp : ¬ ((ps.length : Int) = 0) := by omega
      have lp2 : ((ps.length : Int) == 0) = false := by rw [beq_eq_false_iff_ne]; exact lp
      have lp3 : (0 : Int) < (ps.length : Int) := by omega
      go_wp2_with fail
      obtain ⟨V, hV⟩ : ∃ V, w2.alloc (.cells #[.int .i16 (x0.1.1 : Int), .int .i16 (x0.1.2 : Int), .int .i16 (x0.2.1 : Int), .int .i16 (x0.2.2 : Int)] 49) = V := ⟨_, rfl⟩
      have ze : Blk V w2.heap.size (chK x0) 49 := by rw [← hV]; exact Blk.new _ _ _
      have zr2 : Blk V w.heap.size (chK ((0, 0), (0, 0))) 49 := by rw [← hV]; exact zr.more _
      have B5 : Hid (Below w.heap.size w V) := by rw [← hV]; exact b_alloc B3.out _
      have cc5 : CcIn V g ps := hcc.under (B := w2.heap.size) (by rw [← hV]; exact b_alloc (Below.refl _ _) _) hg2
      obtain ⟨q, hq⟩ : ∃ q, w2.heap.size = q := ⟨_, rfl⟩
      rw [hq] at ze hg2
      simp only [hV, hq]
      have hwq : w.heap.size < q := by have := zr.lt; omega
      clear hV hq zr hcc B3 p0 p1 p2 p3
      have hm0 := Hmem.out x0 (List.mem_of_getElem? hx0)
      refine (HF.out x0 hm0 _ B5.out).mono ?_
      rintro e w3 ⟨rfl, b3⟩
      have CC3 := Lib.hid (cc5.under b3 (by have := ze.lt; omega)); have E3 := Lib.hid (ze.under b3); have R3 := Lib.hid (zr2.under b3); have B6 := Lib.hid (b_then B5.out b3)
      clear b3 cc5 ze zr2 B5
      go_wp2_with fail
      refine (specOff_any _ _ _).mono ?_
      rintro e w4 ⟨r, rfl, hr, b4⟩
      have hr : r = off x0 := cn_eq_fix (hr.trans (HOD.out x0)) (Hoff.out x0 hm0).1.1
      have CC4 := Lib.hid (CC3.out.under b4 (by have := E3.out.lt; omega)); have E4 := Lib.hid (E3.out.under b4); have R4 := Lib.hid (R3.out.under b4); have B7 := Lib.hid (b_then B6.out b4)
      have hS1 : Hid (bestG off (ps.take 1) (((0, 0), (0, 0)), 2139095039) = (x0, r)) := Lib.hid (by
        have e : ps.take 1 = [x0] := by
          cases ps with
          | nil => simp at hps1
          | cons a l => simp at hx0; subst hx0; rfl
        rw [e, bestG_head (Hoff.out x0 hm0).1, hr]
        rfl)
      clear b4 CC3 E3 R3 B6 hr hx0 hm0
      go_wp2_with fail
      go_loopw [10, 11, 12] (fun v10 v11 _ wr => ∃ (i : Nat) (st : ((Nat × Nat) × (Nat × Nat)) × Nat), i ≤ ps.length ∧ v11 = .int .i64 i ∧ v10 = .float .f32 st.2 ∧ Hid (bestG off (ps.take i) (((0, 0), (0, 0)), 2139095039) = st) ∧ Hid (CcIn wr g ps) ∧ Hid (Blk wr q (chK st.1) 49) ∧ Hid (Blk wr w.heap.size (chK ((0, 0), (0, 0))) 49) ∧ Hid (Below w.heap.size w wr)) (fun _ v11 _ _ => ps.length - (intOf v11).toNat)
      case atStart => exact ⟨1, (x0, r), by omega, rfl, rfl, hS1, CC4, E4, R4, B7⟩
      case round =>
        obtain ⟨i, ⟨y, z0⟩, hi, rfl, rfl, hS, hC, hE, hR, hB⟩ := hrel
        by_cases hlt : i < ps.length
        · obtain ⟨x, hx⟩ : ∃ x, ps[i]? = some x := ⟨_, List.getElem?_eq_getElem hlt⟩
          obtain ⟨p0, p1, p2, p3⟩ := hC.out i x hx
          have hm := Hmem.out x (List.mem_of_getElem? hx)
          have hst : ps.take (i + 1) = ps.take i ++ [x] := by rw [List.take_add_one, hx]; rfl
          have HST := Lib.hid hst
          have li : (i : Int) < (ps.length : Int) := by omega
          have i0 : (0 : Int) ≤ (i : Int) := by omega
          have HX := Lib.hid hx
          clear hst hx
          go_wp2_with fail
          refine (HF.out x hm _ hB.out).mono ?_
          rintro e w5 ⟨rfl, b5⟩
          have hqw := hE.out.lt
          have C5 := Lib.hid (hC.out.under b5 (by omega)); have E5 := Lib.hid (hE.out.under b5); have R5 := Lib.hid (hR.out.under b5); have B5 := Lib.hid (b_then hB.out b5)
          clear b5
          go_wp2_with fail
          refine (specOff_any _ _ _).mono ?_
          rintro e w6 ⟨r, rfl, hr, b6⟩
          have hr : r = off x := cn_eq_fix (hr.trans (HOD.out x)) (Hoff.out x hm).1.1
          have hqw5 := E5.out.lt
          have C6 := Lib.hid (C5.out.under b6 (by omega)); have E6 := Lib.hid (E5.out.under b6); have R6 := Lib.hid (R5.out.under b6); have B6 := Lib.hid (b_then B5.out b6)
          have Hst := Lib.hid (fun (tt : Bool) (h : oLt r z0 = tt) => (show bestG off (ps.take (i + 1)) (((0, 0), (0, 0)), 2139095039) = if tt then (x, r) else (y, z0) from by
            rw [HST.out, bestG_snoc, hS.out]
            unfold bstepG
            rw [← hr, h]))
          clear b6 hr hm C5 E5 R5 B5 hC hE hR hB p0 p1 p2 p3 HST hqw hqw5
          cases hlt2 : oLt r z0
          · have t1 := (tf_lt hlt2).2 rfl
            have HS3 := Lib.hid (Hst.out _ hlt2)
            clear hlt2 Hst
            go_wp2
            exact ⟨⟨i + 1, (y, z0), by omega, by go_num, rfl, HS3, C6, E6, R6, B6⟩, by simp [intOf]; omega⟩
          · have t1 := (tf_lt hlt2).1 rfl
            have HS3 := Lib.hid (Hst.out _ hlt2)
            clear hlt2 Hst
            obtain ⟨p0, p1, p2, p3⟩ := C6.out i x HX.out
            have e0 := E6.out.cell 0; have e1 := E6.out.cell 1; have e2 := E6.out.cell 2; have e3 := E6.out.cell 3
            simp at e0 e1 e2 e3
            have f0 := E6.out.frozen 0; have f1 := E6.out.frozen 1; have f2 := E6.out.frozen 2; have f3 := E6.out.frozen 3
            have E7 := Lib.hid (put4 E6.out (x.1.1 : Int) (x.1.2 : Int) (x.2.1 : Int) (x.2.2 : Int))
            have R7 := Lib.hid ((((R6.out.setO (show w.heap.size ≠ q by omega) 0 (.int .i16 (x.1.1 : Int))).setO (show w.heap.size ≠ q by omega) 1 (.int .i16 (x.1.2 : Int))).setO (show w.heap.size ≠ q by omega) 2 (.int .i16 (x.2.1 : Int))).setO (show w.heap.size ≠ q by omega) 3 (.int .i16 (x.2.2 : Int)))
            have C7 := Lib.hid (C6.out.under (put4_below (Below.refl q w6) (Nat.le_refl q) (.int .i16 (x.1.1 : Int)) (.int .i16 (x.1.2 : Int)) (.int .i16 (x.2.1 : Int)) (.int .i16 (x.2.2 : Int))) hg2)
            have B7 := Lib.hid (put4_below B6.out (Nat.le_of_lt hwq) (.int .i16 (x.1.1 : Int)) (.int .i16 (x.1.2 : Int)) (.int .i16 (x.2.1 : Int)) (.int .i16 (x.2.2 : Int)))
            go_wp2
            exact ⟨⟨i + 1, (x, r), by omega, by go_num, rfl, HS3, C7, E7, R7, B7⟩, by simp [intOf]; omega⟩
        · obtain rfl : i = ps.length := by omega
          have li : ¬ (ps.length : Int) < (ps.length : Int) := by omega
          have hR8 : (y, z0) = R := by rw [← HR2.out, ← hS.out, List.take_length]
          have c0 := hR.out.cell 0; have c1 := hR.out.cell 1; have c2 := hR.out.cell 2; have c3 := hR.out.cell 3
          have e0 := hE.out.cell 0; have e1 := hE.out.cell 1; have e2 := hE.out.cell 2; have e3 := hE.out.cell 3
          simp at c0 c1 c2 c3 e0 e1 e2 e3
          have f0 := hR.out.frozen 0; have f1 := hR.out.frozen 1; have f2 := hR.out.frozen 2; have f3 := hR.out.frozen 3
          subst hR8
          go_wp2
          exact bodyPost_ret (ret_ch (x := y) Try.results31 rfl (put4 hR.out _ _ _ _)) rfl ⟨rfl, put4_below hB.out (Nat.le_refl _) _ _ _ _⟩
end Go.Proofs.Ytaodpopghacmaaa
