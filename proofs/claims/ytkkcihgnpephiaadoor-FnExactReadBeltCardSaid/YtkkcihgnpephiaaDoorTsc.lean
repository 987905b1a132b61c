/-
  A stone read from its text: the model's; the law.
-/
import Derived.Test.YtkkcihgnpephiaaDoorTsb
import Derived.Test.YtkkcihgnpephiaaDoorTxj
namespace Go.Proofs.YtkkcihgnpephiaaDoor
open Go.RowKit Go.ChangeShapes Go.WideShapes Go.Deep
attribute [local go_sem ↓] Go.wp_at_zero Go.wp_at_succ
set_option linter.unusedVariables false
set_option linter.unusedSimpArgs false
set_option maxRecDepth 100000
/-- The numbers that the model has read so far. -/
structure NmI (n q : Nat) (T : TypeId) (l : List (List UInt8)) (k : Nat) (w1 wr : World) : Prop where
  hok : okAll (l.take k) = true
  hb : Below w1.heap.size w1 wr
  hc : ∃ cs, Blk wr q cs T ∧ cs.size = n ∧ ∀ j, j < k → cs[j]? = some (.float .f32 ((rdV l).getD j 0))
theorem NmI.step {n q : Nat} {T : TypeId} {l : List (List UInt8)} {k : Nat} {w1 wr : World} {x : List UInt8} {y : Nat} (h : NmI n q T l k w1 wr) (hk : k < n) (hq : w1.heap.size ≤ q) (hx : l[k]? = some x) (hr : rdN x = some y) : NmI n q T l (k + 1) w1 (wr.setCell ⟨q, k, none⟩ (.float .f32 y)) := by
  obtain ⟨h1, h2, cs, h3, h4, h5⟩ := h
  refine ⟨okAll_take_succ h1 hx (by rw [hr]; rfl), h2.setCell (p := ⟨q, k, none⟩) hq _, cs.setIfInBounds k (.float .f32 y), h3.set k _, by simp [h4], fun j hj => ?_⟩
  by_cases hjk : j = k
  · subst hjk
    have e : (rdV l).getD j 0 = y := by
      unfold rdV
      simp [List.getD, hx, hr, rnV]
    rw [Array.getElem?_setIfInBounds_self_of_lt (by omega), e]
  · rw [Array.getElem?_setIfInBounds_ne (by omega)]
    exact h5 j (by omega)
set_option maxHeartbeats 4000000 in
theorem specReadStone_any (t : ByteArray) (hs : t.size ≤ 1048576) (w : World) : Calls Tryd.prog 38 #[.string t] w (RdS (rsS t.data.toList) w) := by
  have b0 := b_alloc (Below.refl _ w) (.cells #[.float .f32 0, .float .f32 0, .float .f32 0, .float .f32 0] 53)
  have HS := Lib.hid (l01Split_any t 47 hs (w.alloc (.cells #[.float .f32 0, .float .f32 0, .float .f32 0, .float .f32 0] 53)))
  have K0 := Lib.hid (Blk.new w #[.float .f32 0, .float .f32 0, .float .f32 0, .float .f32 0] 53)
  have B0 := Lib.hid b0
  have hw : rsW (spl 47 t.data.toList) = rsS t.data.toList := rfl
  have HW := Lib.hid hw
  clear b0 hw
  generalize rsS t.data.toList = R at *
  have hln : (spl 47 t.data.toList).length ≤ 1048577 := Nat.le_trans (spl_le 47 t.data.toList) (by rw [← Lib.size_eq]; omega)
  generalize spl 47 t.data.toList = ws at *
  go_enter Tryd.func38, Tryd.ntmps38
  go_wp2_with fail
  refine HS.out.mono ?_
  rintro e w1 ⟨v1, rfl, hst, b1⟩
  have K1 := Lib.hid (K0.out.on rfl b1)
  have B1 := Lib.hid (b_then B0.out b1)
  obtain ⟨b, o, c, rfl, hb, hlc, hcm, hcell⟩ := hst
  have Hcell := Lib.hid hcell
  have hq0 := K1.out.lt
  clear hcell HS B0 K0 b1
  by_cases h4 : ws.length = 4
  · have h4i : ((ws.length : Int) != 4) = false := by rw [h4]; rfl
    have H4 := Lib.hid h4
    have I0 := Lib.hid (show NmI 4 w1.heap.size 111 ws 0 w1 (w1.alloc (.cells #[.float .f32 0, .float .f32 0, .float .f32 0, .float .f32 0] 111)) from ⟨rfl, b_alloc (Below.refl _ _) _, _, Blk.new _ _ _, rfl, fun j h => absurd h (by omega)⟩)
    clear h4
    go_wp2_with fail
    clear h4i
    generalize (w1.alloc (.cells #[.float .f32 0, .float .f32 0, .float .f32 0, .float .f32 0] 111)) = W1 at *
    go_loopw [6] (fun vi wr => ∃ (k : Nat), vi = .int .i64 k ∧ k ≤ 4 ∧ Hid (NmI 4 w1.heap.size 111 ws k w1 wr)) (fun vi _ => 4 - (intOf vi).toNat)
    case atStart => exact ⟨0, rfl, by omega, I0⟩
    case round =>
      obtain ⟨k, rfl, hk, hI⟩ := hrel
      have K2 := Lib.hid (K1.out.on rfl hI.out.hb)
      have B2 := Lib.hid (b_then B1.out hI.out.hb)
      by_cases hlt : k < 4
      · obtain ⟨x, hx⟩ : ∃ x, ws[k]? = some x := ⟨_, List.getElem?_eq_getElem (by rw [H4.out]; exact hlt)⟩
        have c0 := cell_on (Hcell.out k x hx) rfl hI.out.hb
        unfold strV at c0
        have hkw : k < ws.length := by rw [H4.out]; exact hlt
        have L := Lib.hid (l01Read_any (bsOf x) wr)
        rw [bsOf_data] at L
        cases hr : rdN x with
        | some y =>
          have hst := Lib.hid (hI.out.step hlt (Nat.le_refl _) hx hr)
          obtain ⟨cs, hBk, hcs, _⟩ := hI.out.hc
          have d0 := hBk.cell k
          have g0 := hBk.frozenT k
          obtain ⟨z, hz⟩ : ∃ z, cs[k]? = some z := ⟨cs[k]'(by omega), Array.getElem?_eq_getElem (by omega)⟩
          rw [hz] at d0
          rw [hr] at L
          clear hx hr hBk hcs hz hI K2 B2
          go_wp2_with fail
          refine L.out.mono ?_
          rintro e w2 ⟨⟨x', rfl, hx'⟩, rfl⟩
          obtain rfl := hx' y rfl
          go_wp2
          exact ⟨⟨k + 1, by go_num, by omega, hst⟩, by simp [intOf]; omega⟩
        | none =>
          have hR : R = none := by rw [← HW.out]; unfold rsW; rw [if_pos H4.out, okAll_bad hx hr]; rfl
          have HR := Lib.hid hR
          rw [hr] at L
          (have k0 := K2.out.cell 0; have k1 := K2.out.cell 1; have k2 := K2.out.cell 2; have k3 := K2.out.cell 3; simp at k0 k1 k2 k3; have f0 := K2.out.frozenT 0; have f1 := K2.out.frozenT 1; have f2 := K2.out.frozenT 2; have f3 := K2.out.frozenT 3)
          clear hx hr hI hR
          go_wp2_with fail
          refine L.out.mono ?_
          rintro e w2 ⟨⟨x', rfl, hx'⟩, rfl⟩
          go_wp2
          refine bodyPost_ret (ret4 Tryd.results38 rfl ((((K2.out.set 0 _).set 1 _).set 2 _).set 3 _)) rfl (rds_none HR.out ?_)
          (refine Below.setCell (p := ⟨w.heap.size, 3, none⟩) ?_ (Nat.le_refl _) _; refine Below.setCell (p := ⟨w.heap.size, 2, none⟩) ?_ (Nat.le_refl _) _; refine Below.setCell (p := ⟨w.heap.size, 1, none⟩) ?_ (Nat.le_refl _) _; refine Below.setCell (p := ⟨w.heap.size, 0, none⟩) ?_ (Nat.le_refl _) _)
          exact B2.out
      · obtain rfl : k = 4 := by omega
        have e1 : ws.take 4 = ws := List.take_of_length_le (by rw [H4.out]; exact Nat.le_refl _)
        have hok := hI.out.hok
        rw [e1] at hok
        obtain ⟨cs, hBk, hcs, hcv⟩ := hI.out.hc
        have hlen : (rdV ws).length = 4 := by rw [rdV_len]; exact H4.out
        obtain ⟨x0, x1, x2, x3, hx⟩ := l4_of hlen
        rw [hx] at hcv
        have d0 := (hBk.cell 0).trans (hcv 0 (by omega))
        have d1 := (hBk.cell 1).trans (hcv 1 (by omega))
        have d2 := (hBk.cell 2).trans (hcv 2 (by omega))
        have d3 := (hBk.cell 3).trans (hcv 3 (by omega))
        simp at d0 d1 d2 d3
        have hR : R = if okS ⟨x0, x1, x2, x3⟩ then some ⟨x0, x1, x2, x3⟩ else none := by rw [← HW.out]; unfold rsW; rw [if_pos H4.out, hok, if_pos rfl, hx]; rfl
        have HR0 := Lib.hid hR
        have LV := Lib.hid (fun W => l04Ok_any ⟨x0, x1, x2, x3⟩ W)
        clear e1 hok hBk hcs hcv hlen hx hR hI
        go_wp2_with fail
        refine (LV.out _).mono ?_
        rintro e w3 ⟨rfl, b3⟩
        have b23 : Below wr.heap.size wr w3 := b_then (b_alloc (Below.refl _ _) _) b3
        have N3 := Lib.hid (Blk.on (Blk.new wr #[.float .f32 x0, .float .f32 x1, .float .f32 x2, .float .f32 x3] 53) rfl b3)
        have K3 := Lib.hid (K2.out.on rfl b23)
        have B3 := Lib.hid (b_then B2.out b23)
        clear b3 b23 K2 B2 LV d0 d1 d2 d3
        have K2 := K3
        have B2 := B3
        clear K3 B3
        (have k0 := K2.out.cell 0; have k1 := K2.out.cell 1; have k2 := K2.out.cell 2; have k3 := K2.out.cell 3; simp at k0 k1 k2 k3; have f0 := K2.out.frozenT 0; have f1 := K2.out.frozenT 1; have f2 := K2.out.frozenT 2; have f3 := K2.out.frozenT 3)
        have n0 := N3.out.cell 0; have n1 := N3.out.cell 1; have n2 := N3.out.cell 2; have n3 := N3.out.cell 3
        simp at n0 n1 n2 n3
        cases hv : okS ⟨x0, x1, x2, x3⟩
        · have hR := HR0.out
          rw [hv] at hR
          have HR : Hid (R = none) := Lib.hid hR
          clear hv hR
          go_wp2
          refine bodyPost_ret (ret4 Tryd.results38 rfl ((((K2.out.set 0 _).set 1 _).set 2 _).set 3 _)) rfl (rds_none HR.out ?_)
          (refine Below.setCell (p := ⟨w.heap.size, 3, none⟩) ?_ (Nat.le_refl _) _; refine Below.setCell (p := ⟨w.heap.size, 2, none⟩) ?_ (Nat.le_refl _) _; refine Below.setCell (p := ⟨w.heap.size, 1, none⟩) ?_ (Nat.le_refl _) _; refine Below.setCell (p := ⟨w.heap.size, 0, none⟩) ?_ (Nat.le_refl _) _)
          exact B2.out
        · have hR := HR0.out
          rw [hv] at hR
          have HR : Hid (R = some ⟨x0, x1, x2, x3⟩) := Lib.hid hR
          clear hv hR
          go_wp2
          refine bodyPost_ret (ret4 Tryd.results38 rfl ((((K2.out.set 0 _).set 1 _).set 2 _).set 3 _)) rfl (rds_some (T := ⟨x0, x1, x2, x3⟩) HR.out ?_)
          (refine Below.setCell (p := ⟨w.heap.size, 3, none⟩) ?_ (Nat.le_refl _) _; refine Below.setCell (p := ⟨w.heap.size, 2, none⟩) ?_ (Nat.le_refl _) _; refine Below.setCell (p := ⟨w.heap.size, 1, none⟩) ?_ (Nat.le_refl _) _; refine Below.setCell (p := ⟨w.heap.size, 0, none⟩) ?_ (Nat.le_refl _) _)
          exact B2.out
  · have h4i : ((ws.length : Int) != 4) = true := by
      have : ¬ ((ws.length : Int) = 4) := by omega
      simpa using this
    have hR : R = none := by rw [← HW.out]; unfold rsW; rw [if_neg h4]
    have HR := Lib.hid hR
    have K2 := K1
    have B2 := B1
    (have k0 := K2.out.cell 0; have k1 := K2.out.cell 1; have k2 := K2.out.cell 2; have k3 := K2.out.cell 3; simp at k0 k1 k2 k3; have f0 := K2.out.frozenT 0; have f1 := K2.out.frozenT 1; have f2 := K2.out.frozenT 2; have f3 := K2.out.frozenT 3)
    clear hR h4 K1 B1
    go_wp2
    refine bodyPost_ret (ret4 Tryd.results38 rfl ((((K2.out.set 0 _).set 1 _).set 2 _).set 3 _)) rfl (rds_none HR.out ?_)
    (refine Below.setCell (p := ⟨w.heap.size, 3, none⟩) ?_ (Nat.le_refl _) _; refine Below.setCell (p := ⟨w.heap.size, 2, none⟩) ?_ (Nat.le_refl _) _; refine Below.setCell (p := ⟨w.heap.size, 1, none⟩) ?_ (Nat.le_refl _) _; refine Below.setCell (p := ⟨w.heap.size, 0, none⟩) ?_ (Nat.le_refl _) _)
    exact B2.out
theorem conv_twoT {x y : Nat} (h : cn x = cn y) : ∃ zx zy : World → Nat, ∃ dx dy : Nat, (∀ w, (convert 22 28 (.float .f32 x)).run Tryd.prog w = .ok (.float .f64 (zx w)) (w.drewN dx)) ∧ (∀ w, (convert 22 28 (.float .f32 y)).run Tryd.prog w = .ok (.float .f64 (zy w)) (w.drewN dy)) ∧ ∀ (w W w2 : World), Calls Tryd.prog 19 #[.float .f64 (zx w), .float .f64 (zy w2)] W fun e w' => e = .returned (.bool true) ∧ W = w' := by
  rcases cnx h with ⟨hx, hy⟩ | ⟨hx, rfl⟩
  · refine ⟨fun w => nanTo w x, fun w => nanTo w y, 1, 1, fun w => ?_, fun w => ?_, fun w W w2 => sf_nan _ _ _ (nanTo_nan _ _) (nanTo_nan _ _)⟩
    · exact run_nan_wide (P := Tryd.prog) w 22 28 x (by rw [Tryd.underlying22]; rfl) Tryd.underlying28 hx
    · exact run_nan_wide (P := Tryd.prog) w 22 28 y (by rw [Tryd.underlying22]; rfl) Tryd.underlying28 hy
  · refine ⟨fun _ => wide x, fun _ => wide x, 0, 0, fun w => ?_, fun w => ?_, fun w W w2 => sf_eq _ _ (wide_some hx).2⟩ <;>
      exact run_wide (P := Tryd.prog) w 22 28 x (by rw [Tryd.underlying22]; rfl) Tryd.underlying28 hx
set_option maxHeartbeats 2000000 in
theorem eqSn_txt (X Y : Sn) (h1 : cn X.d = cn Y.d) (h2 : cn X.r = cn Y.r) (h3 : cn X.b = cn Y.b) (h4 : cn X.g = cn Y.g) (w : World) : Calls Tryd.prog 40 #[.agg #[.float .f32 X.d, .float .f32 X.r, .float .f32 X.b, .float .f32 X.g], .agg #[.float .f32 Y.d, .float .f32 Y.r, .float .f32 Y.b, .float .f32 Y.g]] w (RV (.bool true) w) := by
  obtain ⟨za, ya, da, ea, ra, sa, ha⟩ := conv_twoT h1
  obtain ⟨zb, yb, db, eb, rb, sb, hb⟩ := conv_twoT h2
  obtain ⟨zc, yc, dc, ec, rc, sc, hc⟩ := conv_twoT h3
  obtain ⟨zd, yd, dd, ed, rd, sd, hd⟩ := conv_twoT h4
  have Ha := Lib.hid ha; have Hb := Lib.hid hb; have Hc := Lib.hid hc; have Hd := Lib.hid hd
  clear ha hb hc hd h1 h2 h3 h4
  go_enter Tryd.func40, Tryd.ntmps40
  go_wp2_with fail
  refine (Ha.out _ _ _).mono ?_
  rintro e w1 ⟨rfl, rfl⟩
  go_wp2_with fail
  refine (Hb.out _ _ _).mono ?_
  rintro e w1 ⟨rfl, rfl⟩
  go_wp2_with fail
  refine (Hc.out _ _ _).mono ?_
  rintro e w1 ⟨rfl, rfl⟩
  go_wp2_with fail
  refine (Hd.out _ _ _).mono ?_
  rintro e w1 ⟨rfl, rfl⟩
  go_wp2
  go_ret
  refine ⟨rfl, ?_⟩
  (repeat (first | exact Below.refl _ _ | refine b_drewN ?_ _ | refine b_drew ?_ | refine b_alloc ?_ _ | refine b_then ?_ (by assumption)))
set_option maxHeartbeats 4000000 in
theorem walk_FnExactReadStone (t : ByteArray) (wt : t.size ≤ maxLen) (w : World) (hT : TbAt w) (hE : TeAt w) (hM : TmAt w) :
    Calls Tryd.prog 10 #[.string t] w fun e w' => e = .returned (.bool true) ∧ Below w.heap.size w w' := by
  have HT := Lib.hid hT; have HE := Lib.hid hE; have HM := Lib.hid hM
  clear hT hE hM
  unfold maxLen at wt
  by_cases hz : 1048576 < (t.size : Int)
  · go_enter Tryd.func10, Tryd.ntmps10
    go_wp2
    go_ret
    exact ⟨rfl, Below.refl _ _⟩
  · have hs : t.size ≤ 1048576 := by omega
    have L1 := Lib.hid (specReadStone_any t hs w)
    have L2 := Lib.hid (fun W h1 h2 h3 => implReadStone_any t hs W h1 h2 h3)
    unfold RdS at L1 L2
    generalize snD (rsS t.data.toList) = T at *
    generalize snK (rsS t.data.toList) = K at *
    have LQ := Lib.hid (fun W => eqSn_txt T T rfl rfl rfl rfl W)
    clear hs
    go_enter Tryd.func10, Tryd.ntmps10
    go_wp2_with fail
    refine L1.out.mono ?_
    rintro e w1 ⟨rfl, b1⟩
    have B1 := Lib.hid b1
    clear b1
    go_wp2_with fail
    have B2 := Lib.hid (b_alloc B1.out (.cells #[.float .f32 T.d, .float .f32 T.r, .float .f32 T.b, .float .f32 T.g] 53))
    have A1 := Lib.hid (Blk.new w1 #[.float .f32 T.d, .float .f32 T.r, .float .f32 T.b, .float .f32 T.g] 53)
    refine (L2.out _ (HT.out.below B2.out) (HE.out.below B2.out) (HM.out.below B2.out)).mono ?_
    rintro e w3 ⟨rfl, b3⟩
    have B3 := Lib.hid (b_then B2.out b3)
    have A3 := Lib.hid (A1.out.on rfl b3)
    clear b3
    have hlt := A3.out.lt
    have k0 := A3.out.cell 0; have k1 := A3.out.cell 1; have k2 := A3.out.cell 2; have k3 := A3.out.cell 3
    simp at k0 k1 k2 k3
    go_wp2_with fail
    clear k0 k1 k2 k3
    refine (LQ.out _).mono ?_
    rintro e w5 ⟨rfl, b5⟩
    have B5 := Lib.hid (b_then (b_alloc B3.out _) b5)
    clear b5
    go_wp2
    go_ret
    exact ⟨rfl, B5.out⟩
end Go.Proofs.YtkkcihgnpephiaaDoor
