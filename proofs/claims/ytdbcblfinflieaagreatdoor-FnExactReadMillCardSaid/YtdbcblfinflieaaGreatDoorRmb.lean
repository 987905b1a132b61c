/-
  A mill read from its text: the program's.
-/
import Derived.Test.YtdbcblfinflieaaGreatDoorRma
import Derived.Test.YtdbcblfinflieaaGreatDoorSen
namespace Go.Proofs.YtdbcblfinflieaaGreatDoor
open Go.RowKit Go.ChangeShapes Go.WideShapes Go.Deep
attribute [local go_sem ↓] Go.wp_at_zero Go.wp_at_succ
set_option linter.unusedVariables false
set_option linter.unusedSimpArgs false
set_option maxRecDepth 100000
theorem ret3m {fn : Func} {tmps : Array Value} {W : World} {q s t : Nat} {x0 x1 x2 : Value} (hr : fn.results = #[.cell s 25, .tmp t]) (h2 : tmps.getD s undef = .pointer (some ⟨q, 0, none⟩)) (Z : Blk W q #[x0, x1, x2] 25) :
    (results fn tmps).run Tryz.prog W = .ok (.tuple #[.agg #[x0, x1, x2], tmps.getD t undef]) W := by
  have e0 := Z.cell 0
  have e1 := Z.cell 1
  have e2 := Z.cell 2
  simp at e0 e1 e2
  rw [Array.getD_eq_getD_getElem?] at h2
  simp [results, hr, h2, go_sem, e0, e1, e2]
def mlD (r : Option Ml) : Ml := r.getD ⟨0, 0, 0⟩
/-- The call returns a mill, and an error: none, or the one of bad texts. -/
def RdMe (r : Option Ml) (Z : Sens) (w : World) (e : Ending) (w' : World) : Prop := e = .returned (.tuple #[.agg #[.int .i16 (mlD r).b, .float .f32 (mlD r).h, .float .f32 (mlD r).r], if r.isSome then .nilIface else .iface 114 (.pointer (some Z.a3))]) ∧ Below w.heap.size w w'
theorem rme_none {w w' : World} {r : Option Ml} {Z : Sens} (h : r = none) (b : Below w.heap.size w w') : RdMe r Z w (.returned (.tuple #[.agg #[.int .i16 0, .float .f32 0, .float .f32 0], .iface 114 (.pointer (some Z.a3))])) w' := by subst h; exact ⟨rfl, b⟩
theorem rme_some {w w' : World} {r : Option Ml} {Z : Sens} {T : Ml} (h : r = some T) (b : Below w.heap.size w w') : RdMe r Z w (.returned (.tuple #[.agg #[.int .i16 T.b, .float .f32 T.h, .float .f32 T.r], .nilIface])) w' := by subst h; exact ⟨rfl, b⟩
theorem l3w {α : Type} {l : List α} (h : l.length = 3) : ∃ a b c, l = [a, b, c] := by
  match l, h with
  | [a, b, c], _ => exact ⟨a, b, c, rfl⟩
set_option maxHeartbeats 4000000 in
theorem readMill_any (t : ByteArray) (hs : t.size ≤ 1048576) (Z : Sens) (w : World) (hT : TbAt w) (hE : TeAt w) (hM : TmAt w) (hS : SenAt w Z) : Calls Tryz.prog 11 #[.string t] w (RdMe (rmS t.data.toList) Z w) := by
  have b0 := b_alloc (Below.refl _ w) (.cells #[.int .i16 0, .float .f32 0, .float .f32 0] 25)
  have HS := Lib.hid (splitN_any t 58 4 (by decide) (by decide) hs (w.alloc (.cells #[.int .i16 0, .float .f32 0, .float .f32 0] 25)) (hM.below b0))
  have K0 := Lib.hid (Blk.new w #[.int .i16 0, .float .f32 0, .float .f32 0] 25)
  have HT := Lib.hid (hT.below b0); have HE := Lib.hid (hE.below b0); have B0 := Lib.hid b0; have S0 := Lib.hid (hS.on rfl b0)
  have hp := splitN_pos 58 4 t.data.toList (by decide)
  have Hsh : Hid (∀ x ∈ Lib.splitN t.data.toList [58] 4, x.length ≤ 1048576) := fun x hx => Nat.le_trans (splitN_short hx) (by rw [← Lib.size_eq]; exact hs)
  have Hyes := Lib.hid (rm_len t.data.toList)
  have Hno := Lib.hid (rm_nolen t.data.toList)
  have Hbad := Lib.hid (show ∀ a b c, spl 58 t.data.toList = [a, b, c] → okAll [b, c] = false → rmS t.data.toList = none from fun a b c h1 h2 => by unfold rmS; rw [h1, rmW3, h2]; rfl)
  have Htx := Lib.hid (fun a b c => @rm_text t.data.toList a b c)
  have Hbq := Lib.hid (fun l => beq_bs l t)
  have hg := cell_lt hS.1.2.2.2.1.cell
  have hgn : ¬ w.heap.size = 0 := by omega
  have hgn2 : ¬ 0 = w.heap.size := by omega
  obtain ⟨hp1, hp2⟩ := hp
  clear hT hE hM b0 hS
  generalize rmS t.data.toList = R at *
  generalize t.data.toList = l at *
  generalize Lib.splitN l [58] 4 = ws at *
  go_enter Tryz.func11, Tryz.ntmps11
  go_wp2_with fail
  refine HS.out.mono ?_
  rintro e w1 ⟨v1, rfl, hst, b1⟩
  have K1 := Lib.hid (K0.out.on rfl b1); have S1 := Lib.hid (S0.out.on rfl b1)
  have HT1 := Lib.hid (HT.out.below b1); have HE1 := Lib.hid (HE.out.below b1); have B1 := Lib.hid (b_then B0.out b1)
  obtain ⟨b, o, c, rfl, hb, hlc, hcm, hcell⟩ := hst
  have Hcell := Lib.hid hcell
  clear hcell HS HT HE B0 K0 S0 b1
  by_cases h5 : ws.length = 3
  · have h5i : ((ws.length : Int) != 3) = false := by rw [h5]; rfl
    have h54 : 2 < ws.length := by omega
    have hsp := Hyes.out h5
    obtain ⟨y0, y1, y2, hy⟩ := l3w h5
    subst hy
    have q0 : w1.cell? ⟨b, o, none⟩ = some (strV y0) := Hcell.out 0 y0 rfl
    have q1 : w1.cell? ⟨b, o + 1, none⟩ = some (strV y1) := Hcell.out 1 y1 rfl
    have q2 : w1.cell? ⟨b, o + 2, none⟩ = some (strV y2) := Hcell.out 2 y2 rfl
    unfold strV at q0 q1 q2
    have z0 := Hsh.out y0 (by simp); have z1 := Hsh.out y1 (by simp); have z2 := Hsh.out y2 (by simp)
    have HRn : Hid (i16V y0 = none → R = none) := Lib.hid (fun h => by
      cases hok : okAll [y1, y2]
      · exact Hbad.out y0 y1 y2 hsp.symm hok
      · have h2 := Htx.out y0 y1 y2 hsp.symm hok
        rw [h] at h2
        exact h2)
    have HR1 : Hid (rdN y1 = none → R = none) := Lib.hid (fun h => Hbad.out y0 y1 y2 hsp.symm (okAll_bad (k := 0) (x := y1) rfl h))
    have HR2 : Hid (rdN y2 = none → R = none) := Lib.hid (fun h => Hbad.out y0 y1 y2 hsp.symm (okAll_bad (k := 1) (x := y2) rfl h))
    have HRs : Hid (∀ v a c, i16V y0 = some v → rdN y1 = some a → rdN y2 = some c → (R = if textM ⟨v, a, c⟩ = l then some ⟨v, a, c⟩ else none) ∧ (-32768 ≤ v ∧ v ≤ 32767) ∧ a < 4294967296 ∧ c < 4294967296) := Lib.hid (fun v a c h1 h2 h3 => by
      have hok : okAll [y1, y2] = true := by unfold okAll; simp [h2, h3]
      have h4 := Htx.out y0 y1 y2 hsp.symm hok
      rw [h1] at h4
      have e : mkM (rdV [y1, y2]) v = ⟨v, a, c⟩ := by
        show (⟨v, rnV (rdN y1), rnV (rdN y2)⟩ : Ml) = _
        rw [h2, h3]; rfl
      simp only [e] at h4
      have b1 := (rdN_some (x := y1) (by rw [h2]; rfl)).1
      have b2 := (rdN_some (x := y2) (by rw [h3]; rfl)).1
      rw [h2] at b1
      rw [h3] at b2
      exact ⟨h4, i16V_range h1, b1, b2⟩)
    have PA := Lib.hid (fun W h => parseInt16_any (bsOf y0) (by rw [bsOf_size]; omega) W h)
    have N1 := Lib.hid (fun W h1 h2 => readNum_any (bsOf y1) (by rw [bsOf_size]; omega) W h1 h2)
    have N2 := Lib.hid (fun W h1 h2 => readNum_any (bsOf y2) (by rw [bsOf_size]; omega) W h1 h2)
    simp only [bsOf_data] at PA N1 N2
    have Q1 := Lib.hid q1; have Q2 := Lib.hid q2
    clear h5 hsp q1 q2 z0 z1 z2 Hyes Hno Htx Hbad Hsh Hcell
    unfold PI16 at PA
    generalize i16V y0 = VA at *
    generalize rdN y1 = V1 at *
    generalize rdN y2 = V2 at *
    go_wp2_with fail
    refine (PA.out _ HE1.out).mono ?_
    rintro e w2 ⟨hpe, b2⟩
    have hpe2 : ∃ (xv : Int) (ev : Value), e = .returned (.tuple #[.int .i64 xv, ev]) ∧ ((ev = .nilIface ∧ VA = some xv) ∨ ∃ N, ev = .iface 73 (.pointer (some ⟨N, 0, none⟩)) ∧ VA = none) := by
      cases VA with
      | some v => exact ⟨v, .nilIface, hpe, .inl ⟨rfl, rfl⟩⟩
      | none =>
        obtain ⟨x, N, h⟩ := hpe
        exact ⟨x, _, h, .inr ⟨N, rfl, rfl⟩⟩
    obtain ⟨xv, ev, rfl, hev⟩ := hpe2
    have K2 := Lib.hid (K1.out.on rfl b2); have S2 := Lib.hid (S1.out.on rfl b2)
    have T2 := Lib.hid (HT1.out.below b2); have E2 := Lib.hid (HE1.out.below b2); have B2 := Lib.hid (b_then B1.out b2)
    have c1 := cell_on Q1.out rfl b2; have R2 := Lib.hid (cell_on Q2.out rfl b2)
    clear b2 hpe K1 S1 HT1 HE1 B1 q0 Q1 Q2 PA
    go_wp2_with fail
    refine (N1.out _ T2.out E2.out).mono ?_
    rintro e w3 ⟨rfl, b3⟩
    have K3 := Lib.hid (K2.out.on rfl b3); have S3 := Lib.hid (S2.out.on rfl b3)
    have T3 := Lib.hid (T2.out.below b3); have E3 := Lib.hid (E2.out.below b3); have B3 := Lib.hid (b_then B2.out b3)
    have c2 := cell_on R2.out rfl b3
    clear b3 K2 S2 T2 E2 B2 c1 R2 N1
    go_wp2_with fail
    refine (N2.out _ T3.out E3.out).mono ?_
    rintro e w4 ⟨rfl, b4⟩
    have K4 := Lib.hid (K3.out.on rfl b4); have S4 := Lib.hid (S3.out.on rfl b4)
    have T4 := Lib.hid (T3.out.below b4); have B4 := Lib.hid (b_then B3.out b4)
    clear b4 K3 S3 T3 E3 B3 c2 N2
    have K2 := K4
    have B2 := B4
    have HS9 := S4
    (have k0 := K2.out.cell 0; have k1 := K2.out.cell 1; have k2 := K2.out.cell 2; simp at k0 k1 k2; have f0 := K2.out.frozenT 0; have f1 := K2.out.frozenT 1; have f2 := K2.out.frozenT 2; have ge := (HS9.out).1.2.2.2.1.cell)
    rcases hev with ⟨rfl, hva⟩ | ⟨N, rfl, hva⟩
    · cases V1 with
      | none =>
        have HR := Lib.hid (HR1.out rfl)
        have e5 : rnK none = 5 := rfl
        rw [e5]
        (go_wp2; go_region_law (fail); all_goals (go_wp2; refine bodyPost_ret (ret3m Tryz.results11 rfl (((K2.out.set 0 _).set 1 _).set 2 _)) rfl (rme_none HR.out ?_); (try refine b_drew ?_); (refine Below.setCell (p := ⟨w.heap.size, 2, none⟩) ?_ (Nat.le_refl _) _; refine Below.setCell (p := ⟨w.heap.size, 1, none⟩) ?_ (Nat.le_refl _) _; refine Below.setCell (p := ⟨w.heap.size, 0, none⟩) ?_ (Nat.le_refl _) _); exact B2.out))
      | some v1 =>
        have e5 : rnK (some v1) = 0 := rfl
        rw [e5]
        cases V2 with
        | none =>
          have HR := Lib.hid (HR2.out rfl)
          have e6 : rnK none = 5 := rfl
          rw [e6]
          (go_wp2; go_region_law (fail); all_goals (go_wp2; refine bodyPost_ret (ret3m Tryz.results11 rfl (((K2.out.set 0 _).set 1 _).set 2 _)) rfl (rme_none HR.out ?_); (try refine b_drew ?_); (refine Below.setCell (p := ⟨w.heap.size, 2, none⟩) ?_ (Nat.le_refl _) _; refine Below.setCell (p := ⟨w.heap.size, 1, none⟩) ?_ (Nat.le_refl _) _; refine Below.setCell (p := ⟨w.heap.size, 0, none⟩) ?_ (Nat.le_refl _) _); exact B2.out))
        | some v2 =>
          have e6 : rnK (some v2) = 0 := rfl
          have e7 : rnV (some v1) = v1 := rfl
          have e8 : rnV (some v2) = v2 := rfl
          rw [e6, e7, e8]
          obtain ⟨hR, hr1, hr2, hr3⟩ := HRs.out xv v1 v2 hva rfl rfl
          have wv : IntKind.i16.wrap xv = xv := IntWalk.i16_in _ (by omega)
          have LV := Lib.hid (fun W h => implMillText_any ⟨xv, v1, v2⟩ ⟨hr2, hr3⟩ W h)
          have HRR := Lib.hid hR
          clear e5 e6 e7 e8 hR hr1 hr2 hr3 hva HRn HR1 HR2 HRs k0 k1 k2 f0 f1 f2 ge
          go_wp2_with fail
          refine (LV.out _ (T4.out.below (b_alloc (Below.refl _ _) _))).mono ?_
          rintro e w5 ⟨rfl, b5⟩
          have b45 : Below w4.heap.size w4 w5 := b_then (b_alloc (Below.refl _ _) _) b5
          have N3 := Lib.hid (Blk.on (Blk.new w4 #[.int .i16 xv, .float .f32 v1, .float .f32 v2] 25) rfl b5)
          have K5 := Lib.hid (K4.out.on rfl b45); have S5 := Lib.hid (S4.out.on rfl b45); have B5 := Lib.hid (b_then B4.out b45)
          clear b5 b45 K2 B2 HS9 K4 S4 B4 LV
          have K2 := K5
          have B2 := B5
          have HS9 := S5
          (have k0 := K2.out.cell 0; have k1 := K2.out.cell 1; have k2 := K2.out.cell 2; simp at k0 k1 k2; have f0 := K2.out.frozenT 0; have f1 := K2.out.frozenT 1; have f2 := K2.out.frozenT 2; have ge := (HS9.out).1.2.2.2.1.cell)
          have n0 := N3.out.cell 0; have n1 := N3.out.cell 1; have n2 := N3.out.cell 2
          simp at n0 n1 n2
          have hbq := Hbq.out (textM ⟨xv, v1, v2⟩)
          have hR := HRR.out
          generalize bsOf (textM ⟨xv, v1, v2⟩) = TX at *
          cases hvv : (TX.toList == t.toList)
          · rw [hvv] at hbq
            have HR : Hid (R = none) := Lib.hid (by rw [hR, if_neg (of_decide_eq_false hbq.symm)])
            clear hR hbq HRR Hbq
            (go_wp2; go_region_law (fail); all_goals (go_wp2; refine bodyPost_ret (ret3m Tryz.results11 rfl (((K2.out.set 0 _).set 1 _).set 2 _)) rfl (rme_none HR.out ?_); (try refine b_drew ?_); (refine Below.setCell (p := ⟨w.heap.size, 2, none⟩) ?_ (Nat.le_refl _) _; refine Below.setCell (p := ⟨w.heap.size, 1, none⟩) ?_ (Nat.le_refl _) _; refine Below.setCell (p := ⟨w.heap.size, 0, none⟩) ?_ (Nat.le_refl _) _); exact B2.out))
          · rw [hvv] at hbq
            have HR : Hid (R = some ⟨xv, v1, v2⟩) := Lib.hid (by rw [hR, if_pos (of_decide_eq_true hbq.symm)])
            clear hR hbq HRR Hbq
            go_wp2
            refine bodyPost_ret (ret3m Tryz.results11 rfl (((K2.out.set 0 _).set 1 _).set 2 _)) rfl (rme_some (T := ⟨xv, v1, v2⟩) HR.out ?_)
            (refine Below.setCell (p := ⟨w.heap.size, 2, none⟩) ?_ (Nat.le_refl _) _; refine Below.setCell (p := ⟨w.heap.size, 1, none⟩) ?_ (Nat.le_refl _) _; refine Below.setCell (p := ⟨w.heap.size, 0, none⟩) ?_ (Nat.le_refl _) _)
            exact B2.out
    · have HR := Lib.hid (HRn.out hva)
      (go_wp2; go_region_law (fail); all_goals (go_wp2; refine bodyPost_ret (ret3m Tryz.results11 rfl (((K2.out.set 0 _).set 1 _).set 2 _)) rfl (rme_none HR.out ?_); (try refine b_drew ?_); (refine Below.setCell (p := ⟨w.heap.size, 2, none⟩) ?_ (Nat.le_refl _) _; refine Below.setCell (p := ⟨w.heap.size, 1, none⟩) ?_ (Nat.le_refl _) _; refine Below.setCell (p := ⟨w.heap.size, 0, none⟩) ?_ (Nat.le_refl _) _); exact B2.out))
  · have h5i : ((ws.length : Int) != 3) = true := by
      have : ¬ ((ws.length : Int) = 3) := by omega
      simpa using this
    have hR : R = none := Hno.out h5
    have HR := Lib.hid hR
    have K2 := K1
    have B2 := B1
    have HS9 := S1
    (have k0 := K2.out.cell 0; have k1 := K2.out.cell 1; have k2 := K2.out.cell 2; simp at k0 k1 k2; have f0 := K2.out.frozenT 0; have f1 := K2.out.frozenT 1; have f2 := K2.out.frozenT 2; have ge := (HS9.out).1.2.2.2.1.cell)
    clear hR h5 K1 B1 Hyes Hno Htx Hbad Hsh Hcell
    (go_wp2; go_region_law (fail); all_goals (go_wp2; refine bodyPost_ret (ret3m Tryz.results11 rfl (((K2.out.set 0 _).set 1 _).set 2 _)) rfl (rme_none HR.out ?_); (try refine b_drew ?_); (refine Below.setCell (p := ⟨w.heap.size, 2, none⟩) ?_ (Nat.le_refl _) _; refine Below.setCell (p := ⟨w.heap.size, 1, none⟩) ?_ (Nat.le_refl _) _; refine Below.setCell (p := ⟨w.heap.size, 0, none⟩) ?_ (Nat.le_refl _) _); exact B2.out))
def mlK (r : Option Ml) : Int := if r.isSome then 0 else 5
/-- The call returns a mill, and a code. -/
def RdM (r : Option Ml) (w : World) (e : Ending) (w' : World) : Prop := e = .returned (.tuple #[.agg #[.int .i16 (mlD r).b, .float .f32 (mlD r).h, .float .f32 (mlD r).r], .int .i64 (mlK r)]) ∧ Below w.heap.size w w'
set_option maxHeartbeats 4000000 in
theorem implReadMill_any (t : ByteArray) (hs : t.size ≤ 1048576) (Z : Sens) (w : World) (hT : TbAt w) (hE : TeAt w) (hM : TmAt w) (hS : SenAt w Z) : Calls Tryz.prog 5 #[.string t] w (RdM (rmS t.data.toList) w) := by
  have b0 := b_alloc (Below.refl _ w) (.cells #[.int .i16 0, .float .f32 0, .float .f32 0] 25)
  have L := Lib.hid (readMill_any t hs Z (w.alloc (.cells #[.int .i16 0, .float .f32 0, .float .f32 0] 25)) (hT.below b0) (hE.below b0) (hM.below b0) (hS.on rfl b0))
  have K0 := Lib.hid (Blk.new w #[.int .i16 0, .float .f32 0, .float .f32 0] 25)
  have S0 := Lib.hid (hS.on rfl b0); have B0 := Lib.hid b0
  clear hT hE hM hS b0
  generalize rmS t.data.toList = R at *
  go_enter Tryz.func5, Tryz.ntmps5
  go_wp2_with fail
  refine L.out.mono ?_
  rintro e w1 ⟨rfl, b1⟩
  have b2 := b_alloc b1 (.cells #[.int .i16 (mlD R).b, .float .f32 (mlD R).h, .float .f32 (mlD R).r] 25)
  have K2 := Lib.hid (K0.out.on rfl b1)
  have B2 := Lib.hid (b_then B0.out b1)
  have S2 := Lib.hid (S0.out.on rfl b2)
  clear b1 b2 L K0 B0 S0
  have k0 := K2.out.cell 0; have k1 := K2.out.cell 1; have k2 := K2.out.cell 2; simp at k0 k1 k2; have f0 := K2.out.frozenT 0; have f1 := K2.out.frozenT 1; have f2 := K2.out.frozenT 2
  have hlt := K2.out.lt
  cases R with
  | none =>
    have C := Lib.hid (codeOf_3 Z _ S2.out)
    have e1 : (if (none : Option Ml).isSome = true then Value.nilIface else .iface 114 (.pointer (some Z.a3))) = .iface 114 (.pointer (some Z.a3)) := rfl
    rw [e1]
    go_wp2_with fail
    refine C.out.mono ?_
    rintro e w2 ⟨rfl, rfl⟩
    go_wp2
    refine bodyPost_ret (ret3m Tryz.results5 rfl (Blk.on (((K2.out.set 0 _).set 1 _).set 2 _) rfl (b_alloc (Below.refl _ _) _))) rfl ⟨rfl, ?_⟩
    refine b_alloc ?_ _
    (refine Below.setCell (p := ⟨w.heap.size, 2, none⟩) ?_ (Nat.le_refl _) _; refine Below.setCell (p := ⟨w.heap.size, 1, none⟩) ?_ (Nat.le_refl _) _; refine Below.setCell (p := ⟨w.heap.size, 0, none⟩) ?_ (Nat.le_refl _) _)
    exact B2.out
  | some T =>
    have e1 : (if (some T).isSome = true then Value.nilIface else .iface 114 (.pointer (some Z.a3))) = .nilIface := rfl
    rw [e1]
    go_wp2
    refine bodyPost_ret (ret3m Tryz.results5 rfl (Blk.on (((K2.out.set 0 _).set 1 _).set 2 _) rfl (b_alloc (Below.refl _ _) _))) rfl ⟨rfl, ?_⟩
    refine b_alloc ?_ _
    (refine Below.setCell (p := ⟨w.heap.size, 2, none⟩) ?_ (Nat.le_refl _) _; refine Below.setCell (p := ⟨w.heap.size, 1, none⟩) ?_ (Nat.le_refl _) _; refine Below.setCell (p := ⟨w.heap.size, 0, none⟩) ?_ (Nat.le_refl _) _)
    exact B2.out
end Go.Proofs.YtdbcblfinflieaaGreatDoor
