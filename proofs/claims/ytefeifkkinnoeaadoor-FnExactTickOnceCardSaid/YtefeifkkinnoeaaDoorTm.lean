/-
  A tick of the program.
-/
import Derived.Test.YtefeifkkinnoeaaDoorTk
namespace Go.Proofs.YtefeifkkinnoeaaDoor
open Go.RowKit Go.ChangeShapes Go.WideShapes Go.Deep
attribute [local go_sem ↓] Go.wp_at_zero Go.wp_at_succ
set_option linter.unusedVariables false
set_option linter.unusedSimpArgs false
set_option maxRecDepth 100000
theorem wf_gate {z : Int} (h0 : 0 ≤ z) (h1 : z ≤ 16) : (Lit.int .i8 z).wf = true := by
  simp only [Lit.wf, Bool.and_eq_true, decide_eq_true_eq]
  rw [show IntKind.i8.min = -128 by rfl, show IntKind.i8.max = 127 by rfl]
  omega
theorem moved_good {G : Gv} {S : Se} (hS : GoodS S) : GoodS ⟨S.s, gateN G S⟩ := by
  obtain ⟨hs, g0, g1⟩ := hS.parts
  obtain ⟨n0, n1⟩ := gateN_in (G := G) g0 g1
  refine ⟨?_, wf_gate n0 n1, hS.ws⟩
  unfold stB inB
  simp [hs, n0, n1]
theorem gateBehind_ex (G : Gv) (S : Se) (p : Nat) (g0 : 0 ≤ S.g) (g1 : S.g ≤ 16) (w : World) : Calls Tryd.prog 26 #[.agg #[.int .i16 G.mb, .float .f32 G.mh, .float .f32 G.mr, .int .i16 G.mb, .float .f32 G.mh, .float .f32 G.mr, .float .f32 G.ar, .float .f32 G.he, .float .f32 G.lo, .float .f32 G.hi, .float .f32 G.ine, .map (some p)], .agg #[.float .f32 S.s, .int .i8 S.g]] w fun e w' => e = .returned (.int .i8 (gateN G S)) ∧ ∃ A B, w' = (w.alloc A).alloc B := by
  have h1 := i8_small (z := S.g - 1) (by omega) (by omega)
  have h2 := i8_small (z := S.g + 1) (by omega) (by omega)
  unfold gateN
  rcases Bool.eq_false_or_eq_true (oGt S.s G.hi) with hk | hk <;> rcases Bool.eq_false_or_eq_true (oLt S.s G.lo) with hs | hs
  all_goals
    simp only [hk, hs, if_true, if_false, Bool.false_eq_true]
    unfold oGt at hk
    unfold oLt at hs
    go_enter Tryd.func26, Tryd.ntmps26
    go_wp2
    all_goals
      go_ret
      refine ⟨?_, _, _, rfl⟩
      first | rfl | (congr 2; (repeat split) <;> omega) | (congr 2; split <;> omega) | (simp_all; done)
theorem AtGd.save {w w' : World} {q p : Nat} {G : Gv} (h : AtGd w q G p) (hn : q ≠ p) (s : Save p w w') : AtGd w' q G p := (s.2.2 q h.lt hn).trans h
theorem AtSe.save {w w' : World} {q p : Nat} {S : Se} (h : AtSe w q S) (hn : q ≠ p) (s : Save p w w') : AtSe w' q S := (s.2.2 q h.lt hn).trans h
theorem Blk.save {w w' : World} {q p : Nat} {cs : Array Value} {t : TypeId} (h : Blk w q cs t) (hn : q ≠ p) (s : Save p w w') : Blk w' q cs t := (s.2.2 q h.lt hn).trans h
theorem Save.set {p q : Nat} {w w' : World} (h : Save p w w') (hq : w.heap.size ≤ q) (i : Nat) (v : Value) : Save p w (w'.setCell ⟨q, i, none⟩ v) :=
  ⟨h.1.setCell (p := ⟨q, i, none⟩) (Nat.zero_le _) v, (h.1.setCell (p := ⟨q, i, none⟩) (Nat.zero_le _) v).size, fun k hk hp => (Below.heap_setCell w' ⟨q, i, none⟩ v k (by show k ≠ q; omega)).trans (h.2.2 k hk hp)⟩
theorem Save.drew {p : Nat} {w w' : World} (h : Save p w w') : Save p w w'.drew := ⟨h.1.drew, h.2.1, h.2.2⟩
theorem Save.undrew {p : Nat} {w w' : World} (h : Save p w.drew w') : Save p w w' := ⟨⟨h.1.os, h.1.tape, h.1.output, h.1.size, h.1.block⟩, h.2.1, h.2.2⟩
theorem heap_third_r (w : World) (a b o : Obj) : (((w.alloc a).alloc b).alloc o).drew.heap[w.heap.size + 1 + 1]? = some o := heap_third w a b o
theorem heap_third_n (w : World) (a b o : Obj) (n : Nat) : ((((w.alloc a).alloc b).alloc o).drewN n).heap[w.heap.size + 1 + 1]? = some o := heap_third w a b o
theorem heap_first_r (w : World) (o a b : Obj) : (((w.alloc o).alloc a).alloc b).drew.heap[w.heap.size]? = some o := heap_first w o a b
theorem heap_first_n (w : World) (o a b : Obj) (n : Nat) : ((((w.alloc o).alloc a).alloc b).drewN n).heap[w.heap.size]? = some o := heap_first w o a b
theorem heap_first_set2 (w : World) (x y : Obj) (n : Nat) (a b : Value) : ((((((w.alloc (.cells #[.float .f32 0, .int .i8 0] 31)).alloc x).alloc y).drewN n).setCell ⟨w.heap.size, 0, none⟩ a).setCell ⟨w.heap.size, 1, none⟩ b).heap[w.heap.size]? = some (.cells #[a, b] 31 (0, 0)) := by
  have z0 : Blk ((((w.alloc (.cells #[.float .f32 0, .int .i8 0] 31)).alloc x).alloc y).drewN n) w.heap.size #[.float .f32 0, .int .i8 0] 31 := heap_first_d w _ x y n
  exact (z0.set 0 a).set 1 b
set_option maxHeartbeats 4000000 in
theorem implTick_any (G : Gv) (hG : GoodG G) (S : Se) (hS : GoodS S) (l : Nat) (hl : psB l = true) (p : Nat) (es : Array MapEntry) (c : Nat) (w : World) (hp : w.heap[p]? = some (.map es c)) (hI : Inv (millOf G) es.toList) :
    Calls Tryd.prog 16 #[.agg #[.int .i16 G.mb, .float .f32 G.mh, .float .f32 G.mr, .int .i16 G.mb, .float .f32 G.mh, .float .f32 G.mr, .float .f32 G.ar, .float .f32 G.he, .float .f32 G.lo, .float .f32 G.hi, .float .f32 G.ine, .map (some p)], .agg #[.float .f32 S.s, .int .i8 S.g], .float .f32 l] w fun e w' => e = .returned (.agg #[.float .f32 (tickS G S l).s, .int .i8 (tickS G S l).g]) ∧ (∃ es' c', w'.heap[p]? = some (.map es' c') ∧ Inv (millOf G) es'.toList) ∧ Save p w w' := by
  have hpl : p < w.heap.size := (Array.getElem?_eq_some_iff.1 hp).1
  obtain ⟨q0, q1, qr, bw⟩ := tick_q w #[.int .i16 G.mb, .float .f32 G.mh, .float .f32 G.mr, .int .i16 G.mb, .float .f32 G.mh, .float .f32 G.mr, .float .f32 G.ar, .float .f32 G.he, .float .f32 G.lo, .float .f32 G.hi, .float .f32 G.ine, .map (some p)] 51 S
  have q0' : AtGd (tickW w #[.int .i16 G.mb, .float .f32 G.mh, .float .f32 G.mr, .int .i16 G.mb, .float .f32 G.mh, .float .f32 G.mr, .float .f32 G.ar, .float .f32 G.he, .float .f32 G.lo, .float .f32 G.hi, .float .f32 G.ine, .map (some p)] 51 S) w.heap.size G p := q0
  have hm0 : (tickW w #[.int .i16 G.mb, .float .f32 G.mh, .float .f32 G.mr, .int .i16 G.mb, .float .f32 G.mh, .float .f32 G.mr, .float .f32 G.ar, .float .f32 G.he, .float .f32 G.lo, .float .f32 G.hi, .float .f32 G.ine, .map (some p)] 51 S).heap[p]? = some (.map es c) := (bw.block p hpl).trans hp
  have hs0 : w.heap.size < (tickW w #[.int .i16 G.mb, .float .f32 G.mh, .float .f32 G.mr, .int .i16 G.mb, .float .f32 G.mh, .float .f32 G.mr, .float .f32 G.ar, .float .f32 G.he, .float .f32 G.lo, .float .f32 G.hi, .float .f32 G.ine, .map (some p)] 51 S).heap.size := q0'.lt
  have hs1 : w.heap.size + 1 < (tickW w #[.int .i16 G.mb, .float .f32 G.mh, .float .f32 G.mr, .int .i16 G.mb, .float .f32 G.mh, .float .f32 G.mr, .float .f32 G.ar, .float .f32 G.he, .float .f32 G.lo, .float .f32 G.hi, .float .f32 G.ine, .map (some p)] 51 S).heap.size := q1.lt
  have hs2 : w.heap.size + 2 < (tickW w #[.int .i16 G.mb, .float .f32 G.mh, .float .f32 G.mr, .int .i16 G.mb, .float .f32 G.mh, .float .f32 G.mr, .float .f32 G.ar, .float .f32 G.he, .float .f32 G.lo, .float .f32 G.hi, .float .f32 G.ine, .map (some p)] 51 S).heap.size := qr.lt
  obtain ⟨hs, g0, g1⟩ := hS.parts
  obtain ⟨e1, e2, e3, e4, e5⟩ := tick_some hG hS hl
  have ra1 := fun w => run_float_arith (P := Tryd.prog) w .sub 23 .f32 _ _ _ e1
  have ra2 := fun w => run_float_arith (P := Tryd.prog) w .quo 23 .f32 _ _ _ e2
  have ra3 := fun w => run_float_arith (P := Tryd.prog) w .add 23 .f32 _ _ _ e3
  have hmn := fun ts t w => cap_min (P := Tryd.prog) e4 e5 ts t w
  have HR : Hid (nan32 (rawN G S l) = false ∧ rawN G S l < 4294967296) := ⟨e4, e5⟩
  have HG := Lib.hid hG; have HS := Lib.hid hS; have HI := Lib.hid hI
  clear e1 e2 e3 e4 e5 hG hS hI hl q0
  unfold tickW at q0' q1 qr bw hm0 hs0 hs1 hs2
  go_enter Tryd.func16, Tryd.ntmps16
  go_upto_region 1 with fail
  generalize (((w.alloc (.cells #[.int .i16 G.mb, .float .f32 G.mh, .float .f32 G.mr, .int .i16 G.mb, .float .f32 G.mh, .float .f32 G.mr, .float .f32 G.ar, .float .f32 G.he, .float .f32 G.lo, .float .f32 G.hi, .float .f32 G.ine, .map (some p)] 51)).alloc (.cells #[.float .f32 S.s, .int .i8 S.g] 31)).alloc (.cells #[.float .f32 0, .int .i8 0] 31)) = W at *
  have Q0 := Lib.hid q0'; have Q1 := Lib.hid q1; have QR := Lib.hid qr; have BW := Lib.hid bw; have HM0 := Lib.hid hm0
  obtain ⟨c0, c1, c2, c3, c4, c5, c6, c7, c8, c9, c10, c11⟩ := q0'.cells
  obtain ⟨d0, d1⟩ := q1.cells
  clear q0' q1 qr bw hm0
  go_cut [7] (fun s7 wx => ∃ k, s7 = .pointer (some ⟨k, 0, none⟩) ∧ W.heap.size ≤ k ∧ Blk wx k #[.float .f32 S.s, .int .i8 (gateN G S)] 31 ∧ Below W.heap.size W wx)
  case first =>
    go_region_law (go_simp; go_at_call 26; refine (gateBehind_ex G S p g0 g1 _).mono ?_; rintro e w1 ⟨rfl, X1, X2, rfl⟩; dsimp only)
    all_goals
      go_wp2_with fail
      go_meet
      refine ⟨_, rfl, ?_, ?_, ?_⟩
      · with_reducible first | exact Nat.le_refl _ | omega
      unfold Blk
      · first
          | with_reducible exact heap_third_d W _ _ _ _
          | with_reducible exact heap_first_set2 W _ _ _ _ _
          | with_reducible exact heap_third_r W _ _ _
          | with_reducible exact heap_third_n W _ _ _ _
          | with_reducible exact heap_first_r W _ _ _
          | with_reducible exact heap_first_n W _ _ _ _
          | trace_state
      · with_reducible repeat (first | exact Below.refl W.heap.size W | refine b_drewN ?_ _ | refine b_drew ?_ | refine b_alloc ?_ _ | refine b_set ?_ (Nat.le_refl _) _ _)
  case rest =>
    obtain ⟨k, rfl, hk, hb, hbc⟩ := hcut
    have Q0c := Lib.hid (Q0.out.on (by rfl) hbc); have Q1c := Lib.hid (Q1.out.on (by rfl) hbc); have QRc := Lib.hid (QR.out.on (by rfl) hbc); have HBC := Lib.hid hbc; have HB := Lib.hid hb
    have hpW : p < W.heap.size := Nat.lt_of_lt_of_le hpl BW.out.size
    have HMc : Hid (wc.heap[p]? = some (.map es c)) := (hbc.block p hpW).trans HM0.out
    have hkp : Hid (k ≠ p) := by intro h; omega
    have ht0 : w.heap.size < wc.heap.size := Q0c.out.lt
    have ht1 : w.heap.size + 1 < wc.heap.size := Q1c.out.lt
    have ht2 : k < wc.heap.size := hb.lt
    obtain ⟨c0, c1, c2, c3, c4, c5, c6, c7, c8, c9, c10, c11⟩ := Q0c.out.cells
    obtain ⟨d0, d1⟩ := Q1c.out.cells
    have k0 := hb.cell 0; have k1 := hb.cell 1
    simp at k0 k1
    clear hb hbc
    have hqp : w.heap.size ≠ p := by omega
    go_upto_region 2 with fail
    go_cut [8] (fun s8 wx => s8 = .float .f32 (gainN G S l) ∧ (∃ es' c', wx.heap[p]? = some (.map es' c') ∧ Inv (millOf G) es'.toList) ∧ Save p wc wx)
    case first =>
      go_region_law (go_simp; go_at_call 27; refine (torqueAt_any G HG.out ⟨S.s, gateN G S⟩ (moved_good HS.out) p es c _ (by exact HMc.out) HI.out).mono ?_; rintro e w1 ⟨rfl, hm1, sv1'⟩; have sv1 : Save p wc w1 := (by first | exact sv1' | exact Save.undrew sv1' | exact Save.undrew (Save.undrew sv1')); (try (obtain ⟨u0, u1, u2, u3, u4, u5, u6, u7, u8, u9, u10, u11⟩ := (Q0c.out.save hqp sv1).cells)); have HM1 := Lib.hid hm1; have HV1 := Lib.hid sv1; dsimp only)
      all_goals
        go_wp2_with fail
        go_meet
        exact ⟨rfl, HM1.out, HV1.out⟩
    case rest =>
      obtain ⟨rfl, hmd, svd⟩ := hcut
      have hq0 : w.heap.size ≠ p := by omega
      have hq1 : w.heap.size + 1 ≠ p := by omega
      have hq2 : w.heap.size + 2 ≠ p := by omega
      have QRd := QRc.out.save hq2 svd
      have HMD := Lib.hid hmd; have HVD := Lib.hid svd
      clear c0 c1 c2 c3 c4 c5 c6 c7 c8 c9 c10 c11 d0 d1 k0 k1
      obtain ⟨d0, d1⟩ := (Q1c.out.save hq1 svd).cells
      have kd := HB.out.save hkp.out svd
      have k0 := kd.cell 0; have k1 := kd.cell 1
      have rc0 := QRd.cell 0; have rc1 := QRd.cell 1; have rf0 := QRd.frozen 0; have rf1 := QRd.frozen 1
      simp at k0 k1 rc0 rc1
      have hs2' : w.heap.size + 2 < wc.heap.size := QRd.lt
      have ZQ := Lib.hid QRd
      clear QRd kd hmd svd
      go_upto_region 3 with fail
      go_region_law (go_simp; go_at_call 28; refine (notBelow0_any _ HR.out.1 HR.out.2 _).mono ?_; rintro e w1 ⟨rfl, rfl⟩; dsimp only)
      all_goals
        go_wp2
        refine bodyPost_ret (ret_state rfl rfl Tryd.results16 rfl ((ZQ.out.set 0 _).set 1 _)) rfl ⟨rfl, ?_, ?_⟩
        · obtain ⟨es', c', hm', hi'⟩ := HMD.out
          refine ⟨es', c', ?_, hi'⟩
          have e1 := Below.heap_setCell wc ⟨w.heap.size + 2, 0, none⟩ (.float .f32 (capN (rawN G S l))) p (Ne.symm hq2)
          have e2 := Below.heap_setCell (wc.setCell ⟨w.heap.size + 2, 0, none⟩ (.float .f32 (capN (rawN G S l)))) ⟨w.heap.size + 2, 1, none⟩ (.int .i8 (gateN G S)) p (Ne.symm hq2)
          exact (e2.trans e1).trans hm'
        · have sv := ((Save.of (p := p) BW.out).trans (Save.of HBC.out)).trans HVD.out
          have hq : w.heap.size ≤ w.heap.size + 2 := by omega
          exact (((sv.set hq 0 _).set hq 1 _).drew)
end Go.Proofs.YtefeifkkinnoeaaDoor
