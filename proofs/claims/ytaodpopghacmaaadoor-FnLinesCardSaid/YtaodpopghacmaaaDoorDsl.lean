/-
  The law FnLines.
-/
import Derived.Test.YtaodpopghacmaaaDoorDsk
import Derived.Test.YtaodpopghacmaaaDoorDsd
import Derived.Test.YtaodpopghacmaaaDoorDse
import Derived.Test.YtaodpopghacmaaaDoorDsf
import Derived.Test.YtaodpopghacmaaaDoorLnp
namespace Go.Proofs.YtaodpopghacmaaaDoor
open Go.RowKit Go.ChangeShapes Go.WideShapes Go.Deep
attribute [local go_sem ↓] Go.wp_at_zero Go.wp_at_succ
set_option linter.unusedVariables false
set_option linter.unusedSimpArgs false
set_option maxRecDepth 100000
theorem ByIn.keep {w w' : World} {A : Option Addr} {n c : Nat} {zs : List Int} (h : ByIn w A n c zs) (hb : Below w.heap.size w w') : ByIn w' A n c zs := ⟨h.1, h.2.1, h.2.2.1, h.2.2.2.1.keep hb, h.2.2.2.2⟩
/-- Numbers in a list: what the walk reads. -/
theorem fl_at {w : World} {B0 : Nat} {A : Option Addr} {fs : List Nat} {F : Nat → Nat} {n : Nat} (h : Fl w B0 w.heap.size A fs) (hm : fs.map cn = (List.range n).map F) {i : Nat} (hi : i < n) : ∃ b x, A = some ⟨b, 0, none⟩ ∧ w.cell? ⟨b, i, none⟩ = some (.float .f32 x) ∧ cn x = F i := by
  have hl : fs.length = n := by have := congrArg List.length hm; simpa using this
  obtain ⟨b, e, h1, h2, hc⟩ := h (by omega)
  have h3 : fs[i]? = some fs[i] := List.getElem?_eq_getElem (by omega)
  exact ⟨b, _, e, hc i _ h3, map_at hm h3⟩
theorem ord_cn {x y : Nat} (h : cn x = cn y) (z : Nat) : FloatKind.f32.format.order x z = FloatKind.f32.format.order y z := by rw [← order_cn x z, h, order_cn y z]
theorem cn_eq_small {x M : Nat} (h : cn x = M) (hM : M ≤ 2139095040) : x = M := by
  cases hx : nan32 x
  · rw [← h, cn_of_not hx]
  · rw [cn_of_nan hx] at h
    have := small_num hM
    rw [← h, nan_qn] at this
    cases this
theorem loneC_yes {ds : List Dc} {lo hi : Nat} (h : codeO ds lo hi = 0) : loneC ds lo hi = (loneN ds (lst ds lo) 40 (cn lo, cn hi)).1 := by
  unfold loneC
  exact if_pos h
theorem range_len {F : Nat → Nat} {fs : List Nat} {n m : Nat} (h : fs.map cn = (List.range n).map F) (hl : fs.length = m) : m = n := by
  have := congrArg List.length h
  simp at this
  omega
set_option maxHeartbeats 8000000 in
theorem walk_FnLines (A0 : Option Addr) (n0 c0 : Nat) (zs0 : List Int) (A1 : Option Addr) (n1 c1 : Nat) (zs1 : List Int) (w : World) (h0 : ByIn w A0 n0 c0 zs0) (h1 : ByIn w A1 n1 c1 zs1) (hE : EtAt w) :
    Calls Tryd.prog 3 #[.slice A0 n0 c0, .slice A1 n1 c1] w fun e w' => e = .returned (.bool true) ∧ Below w.heap.size w w' := by
  have HE := Lib.hid hE; have H0 := Lib.hid h0; have H1 := Lib.hid h1
  clear hE h0 h1
  have hlg := long_any A0 A1 n0 c0 n1 c1 w
  obtain ⟨tl, htl⟩ : ∃ t, (decide (3000 < n0) || decide (3000 < n1)) = t := ⟨_, rfl⟩
  rw [htl] at hlg
  have HLG := Lib.hid hlg
  clear hlg htl
  cases tl
  case true =>
    go_enter Tryd.func3, Tryd.ntmps3
    go_wp2_with fail
    refine HLG.out.mono ?_
    rintro e w1 ⟨rfl, rfl⟩
    go_wp2
    go_ret
    exact ⟨rfl, Below.refl _ _⟩
  go_enter Tryd.func3, Tryd.ntmps3
  go_wp2_with fail
  refine HLG.out.mono ?_
  rintro e w1 ⟨rfl, rfl⟩
  go_wp2_with fail
  refine (line_any H0.out).mono ?_
  rintro e w1 ⟨A, c, ds, rfl, hT, hd2, hd5, hok, hwf, hb1⟩
  obtain ⟨n, hn⟩ : ∃ n, ds.length = n := ⟨_, rfl⟩
  rw [hn] at hd2 hd5
  rw [hn]
  have HN := Lib.hid hn
  have T1 := Lib.hid hT; have HOK := Lib.hid hok; have HWF := Lib.hid hwf; have B1 := Lib.hid hb1
  have HDS : Hid (∀ d ∈ ds, okD d = true ∧ d.wf) := fun d hd => by
    refine ⟨?_, hwf d hd⟩
    unfold okLine allD at hok
    simp only [Bool.and_eq_true, List.all_eq_true] at hok
    exact hok.2 d hd
  have D1 : Hid (Below w.heap.size w w1) := hb1
  clear hT hok hwf hb1 hn
  have kn : n ≤ 1048576 := by omega
  go_wp2_with fail
  refine (at_any (H1.out.keep D1.out) 0 (by omega) 200 (by omega) (by omega)).mono ?_
  rintro e w2 ⟨x0, x0a, x0b, rfl, rfl⟩
  obtain ⟨q, hq, hqp⟩ := sq_num x0a x0b
  have HQP := Lib.hid hqp
  have rq0 := fun w => run_float_arith (P := Tryd.prog) w .quo 26 .f32 _ _ _ hq
  have HC : Hid (codeL ds q = 0) := by
    show codeL ds q = 0
    unfold codeL
    rw [HOK.out, hqp]
    rfl
  clear hq hqp x0a x0b
  go_wp2_with fail
  refine (implAnswerOf_any A n c ds q _ (HE.out.on (by rfl) D1.out) HN.out kn T1.out).mono ?_
  rintro e w3 h
  rw [HC.out] at h
  obtain ⟨Aa3, na3, ca3, fa3, Ab3, nb3, cb3, fb3, rfl, la, ma, ga, oa, ya, lb, mb, gb, ob, yb, yab, b⟩ := h
  have ma : fa3.map cn = (List.range n).map (swC ds q) := by rw [← HN.out]; exact ma
  have mb : fb3.map cn = (List.range n).map (twC ds q) := by rw [← HN.out]; exact mb
  have ena : na3 = n := range_len ma la
  have enb : nb3 = n := range_len mb lb
  rw [ena, enb]
  have LA3 := Lib.hid (la.trans ena); have LB3 := Lib.hid (lb.trans enb); have MA3 := Lib.hid ma; have MB3 := Lib.hid mb; have GA3 := Lib.hid ga.weak; have GB3 := Lib.hid gb.weak; have B3 := Lib.hid b
  have D3 : Hid (Below w.heap.size w w3) := b_then D1.out b
  clear la lb ma mb ga gb oa ob ya yb yab b ena enb
  have T3 := Lib.hid (T1.out.keep B3.out)
  go_wp2_with fail
  refine (specAnswerOf_any A n c ds q _ HN.out kn T3.out).mono ?_
  rintro e w4 h
  rw [HC.out] at h
  obtain ⟨Aa4, na4, ca4, fa4, Ab4, nb4, cb4, fb4, rfl, la, ma, ga, oa, ya, lb, mb, gb, ob, yb, yab, b⟩ := h
  have ma : fa4.map cn = (List.range n).map (swC ds q) := by rw [← HN.out]; exact ma
  have mb : fb4.map cn = (List.range n).map (twC ds q) := by rw [← HN.out]; exact mb
  have ena : na4 = n := range_len ma la
  have enb : nb4 = n := range_len mb lb
  rw [ena, enb]
  have LA4 := Lib.hid (la.trans ena); have LB4 := Lib.hid (lb.trans enb); have MA4 := Lib.hid ma; have MB4 := Lib.hid mb; have GA4 := Lib.hid ga.weak; have GB4 := Lib.hid gb.weak; have B4 := Lib.hid b
  have D4 : Hid (Below w.heap.size w w4) := b_then D3.out b
  clear la lb ma mb ga gb oa ob ya yb yab b ena enb
  have T4 := Lib.hid (T3.out.keep B4.out)
  have HC0 : Hid (codeL ds 0 = 0) := by
    show codeL ds 0 = 0
    unfold codeL
    rw [HOK.out, ps_word (x := 0) (by decide)]
    rfl
  go_wp2_with fail
  refine (implAnswerOf_any A n c ds 0 _ (HE.out.on (by rfl) D4.out) HN.out kn T4.out).mono ?_
  rintro e w5 h
  rw [HC0.out] at h
  obtain ⟨Aa5, na5, ca5, fa5, Ab5, nb5, cb5, fb5, rfl, la, ma, ga, oa, ya, lb, mb, gb, ob, yb, yab, b⟩ := h
  have ma : fa5.map cn = (List.range n).map (swC ds 0) := by rw [← HN.out]; exact ma
  have mb : fb5.map cn = (List.range n).map (twC ds 0) := by rw [← HN.out]; exact mb
  have ena : na5 = n := range_len ma la
  have enb : nb5 = n := range_len mb lb
  rw [ena, enb]
  have LA5 := Lib.hid (la.trans ena); have LB5 := Lib.hid (lb.trans enb); have MA5 := Lib.hid ma; have MB5 := Lib.hid mb; have GA5 := Lib.hid ga.weak; have GB5 := Lib.hid gb.weak; have B5 := Lib.hid b
  have D5 : Hid (Below w.heap.size w w5) := b_then D4.out b
  clear la lb ma mb ga gb oa ob ya yb yab b ena enb
  have T5 := Lib.hid (T4.out.keep B5.out)
  have hkx : codeX ds q = 0 ∨ codeX ds q = 4 := by
    unfold codeX
    rw [HC.out, if_pos rfl]
    split
    · exact .inl rfl
    · exact .inr rfl
  have hcx : codeX ds q = 0 → 0 ≤ cntX ds q ∧ cntX ds q < (n : Int) := fun h => by
    unfold cntX
    rw [if_pos h]
    have := crossN_le (swC ds q) (ds.length - 1)
    have := HN.out
    omega
  have IC := Lib.hid (fun w hE hT => implCross_any A n c ds q w hE HN.out kn hT)
  have SC := Lib.hid (fun w hT => specCross_any A n c ds q w HN.out kn hT)
  generalize codeX ds q = KX at *
  generalize cntX ds q = CX at *
  have HKX := Lib.hid hkx; have HCX := Lib.hid hcx
  clear hkx hcx
  go_wp2_with fail
  refine (IC.out _ (HE.out.on (by rfl) D5.out) T5.out).mono ?_
  rintro e w6 ⟨rfl, b⟩
  have B6 := Lib.hid b; have D6 : Hid (Below w.heap.size w w6) := b_then D5.out b
  clear b
  have T6 := Lib.hid (T5.out.keep B6.out)
  go_wp2_with fail
  refine (SC.out _ T6.out).mono ?_
  rintro e w7 ⟨rfl, b⟩
  have B7 := Lib.hid b; have D7 : Hid (Below w.heap.size w w7) := b_then D6.out b
  clear b IC SC
  go_upto_region 10 with fail
  go_cut [165] (fun s165 wx => s165 = .bool false ∧ Below w7.heap.size w7 wx)
  case first =>
   have T7 := Lib.hid (T6.out.keep B7.out)
   have B57 : Hid (Below w5.heap.size w5 w7) := b_then B6.out B7.out
   have B47 : Hid (Below w4.heap.size w4 w7) := b_then B5.out B57.out
   have B37 : Hid (Below w3.heap.size w3 w7) := b_then B4.out B47.out
   have GA37 := Lib.hid (GA3.out.keep B37.out); have GB37 := Lib.hid (GB3.out.keep B37.out)
   have GA47 := Lib.hid (GA4.out.keep B47.out); have GB47 := Lib.hid (GB4.out.keep B47.out)
   have GA57 := Lib.hid (GA5.out.keep B57.out); have GB57 := Lib.hid (GB5.out.keep B57.out)
   go_wp2_with fail
   refine (a2Same_same _ _ _ _ _ fa3 fa4 _ LA3.out (MA3.out.trans MA4.out.symm) kn GA37.out GA47.out).mono ?_
   rintro e w8 ⟨rfl, b⟩
   have B8 := Lib.hid b; have D8 : Hid (Below w.heap.size w w8) := b_then D7.out b
   clear b
   go_wp2_with fail
   refine (a2Same_same _ _ _ _ _ fb3 fb4 _ LB3.out (MB3.out.trans MB4.out.symm) kn (GB37.out.keep B8.out) (GB47.out.keep B8.out)).mono ?_
   rintro e w9 ⟨rfl, b⟩
   have B9 := Lib.hid b; have D9 : Hid (Below w.heap.size w w9) := b_then D8.out b
   clear b
   have T9 := Lib.hid ((T7.out.keep B8.out).keep B9.out)
   obtain ⟨bq, z0, eA4, cz0, hz0⟩ := fl_at ((GA47.out.keep B8.out).keep B9.out) MA4.out (show 0 < n by omega)
   subst eA4
   have oz0 : FloatKind.f32.format.order z0 1065353216 = some .eq := by
     have h1 : cn z0 = cn 1065353216 := hz0.trans (first_sw ds q)
     rw [ord_cn h1]
     decide +kernel
   have nn0 : 0 < n := by omega
   have ni0 : (0 : Int) < (n : Int) := by omega
   clear hz0

   have HVL := Lib.hid (fun w hT => validLine_any A n c ds w HN.out kn hT)
   have vl9 := HVL.out _ T9.out
   rw [HOK.out] at vl9
   have VL9 := Lib.hid vl9
   clear vl9 HVL
   rcases HKX.out with hk | hk
   · as_aux_lemma =>
     obtain ⟨e1, e2⟩ := HCX.out hk
     subst hk
     have e3 : ¬ CX < 0 := by omega
     have e4 : ¬ CX ≥ (n : Int) := by omega
     clear e1 e2
     go_wp2_with fail
     refine VL9.out.mono ?_
     rintro e wx ⟨rfl, b⟩
     have BX := Lib.hid b
     clear b
     go_wp2_with fail
     go_meet
     exact ⟨by first | rfl | (rw [decide_eq_false (show ¬ CX < 0 by omega), decide_eq_false (show ¬ (n : Int) ≤ CX by omega)]; rfl), b_then (b_then B8.out B9.out) BX.out⟩
   · as_aux_lemma =>
     subst hk
     go_wp2_with fail
     all_goals
       refine VL9.out.mono ?_
       rintro e wx ⟨rfl, b⟩
       have BX := Lib.hid b
       clear b
       go_wp2_with fail
       go_meet
       exact ⟨rfl, b_then (b_then B8.out B9.out) BX.out⟩
  case rest =>
   obtain ⟨rfl, b⟩ := hcut
   have B10 := Lib.hid b; have D10 : Hid (Below w.heap.size w wc) := b_then D7.out b
   clear b HKX HCX
   as_aux_lemma =>
   go_wp2_with fail
   have GA5c := Lib.hid ((GA5.out.keep (b_then B6.out B7.out)).keep B10.out); have GB5c := Lib.hid ((GB5.out.keep (b_then B6.out B7.out)).keep B10.out)
   have T10 := Lib.hid (((T6.out.keep B7.out)).keep B10.out)
   clear GA3 GA4 GB3 GB4 MA3 MB3 MA4 MB4 LA3 LB3 LA4 LB4
   go_loopw [20] (fun v20 wr => ∃ (i : Nat), i ≤ n ∧ v20 = .int .i64 i ∧ Hid (Below wc.heap.size wc wr)) (fun v20 _ => n - (intOf v20).toNat)
   case atStart => exact ⟨0, Nat.zero_le _, rfl, Below.refl _ _⟩
   case round =>
     obtain ⟨i, hi, rfl, hB⟩ := hrel
     by_cases hlt : i < n
     · have ii0 : (0 : Int) ≤ (i : Int) := by omega
       have ii1 : (i : Int) < (n : Int) := by omega
       obtain ⟨b1, z1, e1, k1, m1⟩ := fl_at (GA5c.out.keep hB.out) MA5.out hlt
       obtain ⟨b2, z2, e2, k2, m2⟩ := fl_at (GB5c.out.keep hB.out) MB5.out hlt
       subst e1
       subst e2
       have o1 : FloatKind.f32.format.order z1 1065353216 = some .eq := by
         have h1 : cn z1 = cn 1065353216 := m1.trans (rest_sw HDS.out (by rw [HN.out]; exact hlt))
         rw [ord_cn h1]
         decide +kernel
       have o2 : FloatKind.f32.format.order z2 0 = some .eq := by
         have h1 : cn z2 = cn 0 := (m2.trans (rest_tw HDS.out (by rw [HN.out]; exact hlt))).trans (by decide +kernel)
         rw [ord_cn h1]
         decide +kernel
       clear m1 m2
       go_wp2
       exact ⟨⟨i + 1, by omega, by go_num, hB⟩, by simp [intOf]; omega⟩
     · obtain rfl : i = n := by omega
       have ii1 : ¬ (i : Int) < (i : Int) := by omega
       have D11 : Hid (Below w.heap.size w wr) := b_then D10.out hB.out
       have T11 := Lib.hid (T10.out.keep hB.out)
       clear GA5c GB5c MA5 MB5 GA5 GB5
       go_wp2_with fail
       refine (at_any (H1.out.keep D11.out) 1 (by omega) 60 (by omega) (by omega)).mono ?_
       rintro e w12 ⟨x1, x1a, x1b, rfl, rfl⟩
       obtain ⟨lo, hlo, l1, l2, l3⟩ := lo_num x1a x1b
       have rq1 := fun w => run_float_arith (P := Tryd.prog) w .quo 26 .f32 _ _ _ hlo
       have g1 : IntKind.i64.wrap (1 + x1) = 1 + x1 := IntWalk.i64_in _ (by omega)
       clear hlo x1a x1b
       go_wp2_with fail
       refine (at_any (H1.out.keep D11.out) 2 (by omega) 250 (by omega) (by omega)).mono ?_
       rintro e w13 ⟨x2, x2a, x2b, rfl, rfl⟩
       obtain ⟨gr, hgr, r1, r2⟩ := hi_num x2a x2b
       have rq2 := fun w => run_float_arith (P := Tryd.prog) w .quo 26 .f32 _ _ _ hgr
       have g2 : IntKind.i64.wrap (1 + x2) = 1 + x2 := IntWalk.i64_in _ (by omega)
       obtain ⟨hi', hhi, u1, u2⟩ := up_num l1 l2 l3 r1 r2
       have ra := fun w => run_float_arith (P := Tryd.prog) w .add 26 .f32 _ _ _ hhi
       clear hgr x2a x2b l3 r1 r2 hhi
       have hIR : inR lo hi' = true := by
         unfold inR
         rw [ps_word (x := lo) (by omega), ps_word (x := hi') (by omega)]
         unfold oLt
         rw [ord_lt (small_num (by omega)) (small_num (by omega)) (by rw [rk_small (by omega), rk_small (by omega)]; omega)]
         rfl
       have HIR := Lib.hid hIR
       have HL1 := Lib.hid l1; have HU1 := Lib.hid u1; have HU2 := Lib.hid u2
       clear hIR l1 l2 u1 u2
       as_aux_lemma =>
       go_wp2_with fail
       refine (implLone_yes A i c ds lo hi' _ HN.out (by omega) T11.out HOK.out HIR.out).mono ?_
       rintro e w14 ⟨m', rfl, hm', b14⟩
       have B14 := Lib.hid b14; have D14 : Hid (Below w.heap.size w w14) := b_then D11.out b14
       have T14 := Lib.hid (T11.out.keep B14.out)
       have HM' := Lib.hid hm'
       clear b14 hm'
       obtain ⟨KO, hKO⟩ : ∃ K, codeO ds lo hi' = K := ⟨_, rfl⟩
       obtain ⟨tA, htA⟩ : ∃ t, apB (lst ds lo) (lst ds hi') = t := ⟨_, rfl⟩
       have hko : KO = if tA then 0 else 6 := by
         rw [← hKO, ← htA]
         unfold codeO
         rw [HOK.out, HIR.out]
         rfl
       rw [hKO]
       have HKO := Lib.hid hko
       have HSL := Lib.hid (fun w hT => specLone_yes A i c ds lo hi' w HN.out (by omega) hT HOK.out HIR.out)
       rw [hKO] at HSL
       have HLC : Hid (tA = true → loneC ds lo hi' = (loneN ds (lst ds lo) 40 (cn lo, cn hi')).1) := fun h => loneC_yes (by rw [hKO, hko, h, if_pos rfl])
       have HTA := Lib.hid htA
       clear hKO htA hko
       go_wp2_with fail
       refine (HSL.out _ T14.out).mono ?_
       rintro e w15 ⟨m, rfl, hm, b⟩
       have B15 := Lib.hid b; have D15 : Hid (Below w.heap.size w w15) := b_then D14.out b
       have T15 := Lib.hid (T14.out.keep B15.out)
       have HM := Lib.hid hm
       clear b hm HSL
       go_wp2_with fail
       refine (sameN_same (HM'.out.trans HM.out.symm) _).mono ?_
       rintro e w16 ⟨rfl, rfl⟩
       have HCl : Hid (codeL ds lo = 0) := by
         show codeL ds lo = 0
         unfold codeL
         rw [HOK.out, ps_word (x := lo) (by have := HU1.out; have := HU2.out; omega)]
         rfl
       have HCh : Hid (codeL ds hi' = 0) := by
         show codeL ds hi' = 0
         unfold codeL
         rw [HOK.out, ps_word HU2.out]
         rfl
       go_wp2_with fail
       refine (specAnswerOf_any A i c ds lo _ HN.out (by omega) T15.out).mono ?_
       rintro e w17 h
       rw [HCl.out] at h
       obtain ⟨Aa17, na17, ca17, fa17, Ab17, nb17, cb17, fb17, rfl, la, ma, ga, oa, ya, lb, mb, gb, ob, yb, yab, b⟩ := h
       have ma : fa17.map cn = (List.range i).map (swC ds lo) := by rw [← HN.out]; exact ma
       have mb : fb17.map cn = (List.range i).map (twC ds lo) := by rw [← HN.out]; exact mb
       have ena : na17 = i := range_len ma la
       have enb : nb17 = i := range_len mb lb
       rw [ena, enb]
       have MB17 := Lib.hid mb; have GB17 := Lib.hid gb.weak; have B17 := Lib.hid b
       have D17 : Hid (Below w.heap.size w w17) := b_then D15.out b
       have T17 := Lib.hid (T15.out.keep B17.out)
       clear la lb ma mb ga gb oa ob ya yb yab b ena enb
       go_wp2_with fail
       refine (specAnswerOf_any A i c ds hi' _ HN.out (by omega) T17.out).mono ?_
       rintro e w18 h
       rw [HCh.out] at h
       obtain ⟨Aa18, na18, ca18, fa18, Ab18, nb18, cb18, fb18, rfl, la, ma, ga, oa, ya, lb, mb, gb, ob, yb, yab, b⟩ := h
       have ma : fa18.map cn = (List.range i).map (swC ds hi') := by rw [← HN.out]; exact ma
       have mb : fb18.map cn = (List.range i).map (twC ds hi') := by rw [← HN.out]; exact mb
       have ena : na18 = i := range_len ma la
       have enb : nb18 = i := range_len mb lb
       rw [ena, enb]
       have MB18 := Lib.hid mb; have GB18 := Lib.hid gb.weak; have B18 := Lib.hid b
       have D18 : Hid (Below w.heap.size w w18) := b_then D17.out b
       have T18 := Lib.hid (T17.out.keep B18.out)
       clear la lb ma mb ga gb oa ob ya yb yab b ena enb
       obtain ⟨k, hik⟩ : ∃ k, i = k + 1 := ⟨i - 1, by omega⟩
       have gk : IntKind.i64.wrap ((i : Int) - 1) = (k : Int) := by rw [hik]; exact (IntWalk.i64_in _ (by omega)).trans (by omega)
       have gk0 : (0 : Int) ≤ (k : Int) := by omega
       have gk1 : (k : Int) < (i : Int) := by omega
       have gk2 : ¬ (i : Int) = 0 := by omega
       have gk3 : ¬ i = 0 := by omega
       have hki : k < i := by omega
       have HKI := Lib.hid hki
       have hls : ∀ q, twC ds q k = lst ds q := fun q => by unfold lst; rw [HN.out, hik]; rfl
       have HLS := Lib.hid hls
       clear hls hki hik
       obtain ⟨bx, x, e1, k1, m1⟩ := fl_at (GB17.out.keep B18.out) MB17.out HKI.out
       obtain ⟨bY, y, e2, k2, m2⟩ := fl_at GB18.out MB18.out HKI.out
       rw [HLS.out] at m1 m2
       have M1 := Lib.hid m1; have M2 := Lib.hid m2
       subst e1
       subst e2
       clear m1 m2 GB17 GB18 MB17 MB18
       have HAP : Hid (apB x y = tA) := by
         show apB x y = tA
         rw [apB_cn (x' := lst ds lo) (y' := lst ds hi') (M1.out.trans (cn_lst ds lo).symm) (M2.out.trans (cn_lst ds hi').symm)]
         exact HTA.out
       as_aux_lemma =>
       go_upto_region 29 with fail
       go_cut [35] (fun s35 wx => s35 = .bool (apB x y) ∧ w18 = wx)
       case first =>
         rcases hox : FloatKind.f32.format.order x 0 with _ | (_ | _ | _) <;> rcases hoy : FloatKind.f32.format.order y 0 with _ | (_ | _ | _)
         all_goals as_aux_lemma =>
           go_wp2_with fail
           go_meet
           exact ⟨by unfold apB oLt oGt; rw [hox, hoy]; rfl, rfl⟩
       case rest =>
         obtain ⟨rfl, rfl⟩ := hcut
         rw [HAP.out]
         clear HAP
         cases tA
         · have hko := HKO.out
           rw [if_neg (by decide)] at hko
           subst hko
           go_wp2
           go_ret
           exact ⟨rfl, D18.out⟩
         · have hko := HKO.out
           rw [if_pos rfl] at hko
           subst hko
           have hfo := lone_found ds HL1.out HU1.out HU2.out HTA.out
           have hmm := HM.out
           rw [HLC.out rfl] at hmm
           generalize (loneN ds (lst ds lo) 40 (cn lo, cn hi')).1 = M at *
           obtain ⟨f1, f2, f3⟩ := hfo
           have hu2 := HU2.out
           obtain rfl : m = M := cn_eq_small hmm (by omega)
           have HF3 := Lib.hid f3
           have o2 : FloatKind.f32.format.order m hi' = some .lt := ord_lt (small_num (by omega)) (small_num (by omega)) (by rw [rk_small (by omega), rk_small (by omega)]; omega)
           have o1 := ord_ge (x := m) (y := lo) (small_num (by omega)) (small_num (by omega)) (by rw [rk_small (by omega), rk_small (by omega)]; omega)
           have O1 := Lib.hid o1
           have HCm : Hid (codeL ds m = 0) := by
             show codeL ds m = 0
             unfold codeL
             rw [HOK.out, ps_word (x := m) (by omega)]
             rfl
           clear hmm f1 f2 f3 hu2 o1 HLC
           go_wp2_with fail
           refine (implAnswerOf_any A i c ds m _ (HE.out.on (by rfl) D18.out) HN.out (by omega) T18.out).mono ?_
           rintro e w20 h
           rw [HCm.out] at h
           obtain ⟨Aa20, na20, ca20, fa20, Ab20, nb20, cb20, fb20, rfl, la, ma, ga, oa, ya, lb, mb, gb, ob, yb, yab, b⟩ := h
           have ma : fa20.map cn = (List.range i).map (swC ds m) := by rw [← HN.out]; exact ma
           have mb : fb20.map cn = (List.range i).map (twC ds m) := by rw [← HN.out]; exact mb
           have ena : na20 = i := range_len ma la
           have enb : nb20 = i := range_len mb lb
           rw [ena, enb]
           have MB20 := Lib.hid mb; have GB20 := Lib.hid gb.weak; have B20 := Lib.hid b
           have D20 : Hid (Below w.heap.size w w20) := b_then D18.out b
           have T20 := Lib.hid (T18.out.keep B20.out)
           clear la lb ma mb ga gb oa ob ya yb yab b ena enb
           obtain ⟨bz, z, e3, k3, m3⟩ := fl_at GB20.out MB20.out HKI.out
           rw [HLS.out] at m3
           subst e3
           have hzx : (FloatKind.f32.format.order z 0 = some .lt ∧ FloatKind.f32.format.order x 0 = some .lt) ∨ (FloatKind.f32.format.order z 0 = some .gt ∧ FloatKind.f32.format.order x 0 = some .gt) := by
             rw [ord_cn (m3.trans (cn_lst ds m).symm) 0, ord_cn (M1.out.trans (cn_lst ds lo).symm) 0]
             have := HF3.out
             unfold akB oLt oGt at this
             simpa using this
           have HZX := Lib.hid hzx
           clear hzx m3 GB20 MB20
           rcases O1.out with o1 | o1 <;> rcases HZX.out with ⟨oz, ox⟩ | ⟨oz, ox⟩
           all_goals as_aux_lemma =>
             go_wp2
             go_ret
             exact ⟨rfl, D20.out⟩
end Go.Proofs.YtaodpopghacmaaaDoor
