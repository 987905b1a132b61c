/-
  A tooth read from its text: the model's; the law.
-/
import Derived.Test.YtkkcihgnpephiaaDoorTtc
namespace Go.Proofs.YtkkcihgnpephiaaDoor
open Go.RowKit Go.ChangeShapes Go.WideShapes Go.Deep
attribute [local go_sem ↓] Go.wp_at_zero Go.wp_at_succ
set_option linter.unusedVariables false
set_option linter.unusedSimpArgs false
set_option maxRecDepth 100000
theorem rtW_bad {ws : List (List UInt8)} (h5 : ws.length = 4) (h : okAll (ws.take 3) = false) : rtW ws = none := by
  unfold rtW
  rw [if_pos h5, h]; rfl
theorem okAll_bad3 {ws : List (List UInt8)} {k : Nat} {x : List UInt8} (hk : k < 3) (hx : ws[k]? = some x) (hr : rdN x = none) : okAll (ws.take 3) = false := by
  refine okAll_bad (k := k) (x := x) ?_ hr
  rw [List.getElem?_take_of_lt hk]; exact hx
theorem wf_one {n : Nat} (h : n ≤ 1) : (Lit.int .i8 (n : Int)).wf = true := by
  match n, h with
  | 0, _ => rfl
  | 1, _ => rfl
set_option maxHeartbeats 4000000 in
theorem specReadTooth_any (t : ByteArray) (hs : t.size ≤ 1048576) (w : World) : Calls Tryd.prog 52 #[.string t] w (RdT (rtS t.data.toList) w) := by
  have b0 := b_alloc (Below.refl _ w) (.cells #[.float .f32 0, .float .f32 0, .float .f32 0, .int .i8 0] 72)
  have HS := Lib.hid (l01Split_any t 44 hs (w.alloc (.cells #[.float .f32 0, .float .f32 0, .float .f32 0, .int .i8 0] 72)))
  have K0 := Lib.hid (Blk.new w #[.float .f32 0, .float .f32 0, .float .f32 0, .int .i8 0] 72)
  have B0 := Lib.hid b0
  have HW := Lib.hid (show rtW (spl 44 t.data.toList) = rtS t.data.toList from rfl)
  clear b0
  generalize rtS t.data.toList = R at *
  have hln : (spl 44 t.data.toList).length ≤ 1048577 := Nat.le_trans (spl_le 44 t.data.toList) (by rw [← Lib.size_eq]; omega)
  generalize spl 44 t.data.toList = ws at *
  go_enter Tryd.func52, Tryd.ntmps52
  go_wp2_with fail
  refine HS.out.mono ?_
  rintro e w1 ⟨v1, rfl, hst, b1⟩
  have K1 := Lib.hid (K0.out.on rfl b1)
  have B1 := Lib.hid (b_then B0.out b1)
  obtain ⟨b, o, c, rfl, hb, hlc, hcm, hcell⟩ := hst
  have Hcell := Lib.hid hcell
  have hq0 := K1.out.lt
  clear hcell HS B0 K0 b1
  by_cases h5 : ws.length = 4
  · have h5i : ((ws.length : Int) != 4) = false := by rw [h5]; rfl
    have H5 := Lib.hid h5
    obtain ⟨y0, y1, y2, y3, hy⟩ := l4w h5
    have Hws := Lib.hid hy
    have h54 : 3 < ws.length := by omega
    have q4 : w1.cell? ⟨b, o + 3, none⟩ = some (strV y3) := Hcell.out 3 y3 (by rw [hy]; rfl)
    unfold strV at q4
    have Q4 := Lib.hid q4
    have HNm := Lib.hid (fun W => number_any (bsOf y3) W)
    have H5W := Lib.hid (rtW4 y0 y1 y2 y3)
    have I0 := Lib.hid (show NmI 3 w1.heap.size 121 ws 0 w1 (w1.alloc (.cells #[.float .f32 0, .float .f32 0, .float .f32 0] 121)) from ⟨rfl, b_alloc (Below.refl _ _) _, _, Blk.new _ _ _, rfl, fun j h => absurd h (by omega)⟩)
    clear h5 hy q4
    go_wp2_with fail
    clear h5i
    generalize (w1.alloc (.cells #[.float .f32 0, .float .f32 0, .float .f32 0] 121)) = W1 at *
    go_loopw [6] (fun vi wr => ∃ (k : Nat), vi = .int .i64 k ∧ k ≤ 3 ∧ Hid (NmI 3 w1.heap.size 121 ws k w1 wr)) (fun vi _ => 3 - (intOf vi).toNat)
    case atStart => exact ⟨0, rfl, by omega, I0⟩
    case round =>
      obtain ⟨k, rfl, hk, hI⟩ := hrel
      have K2 := Lib.hid (K1.out.on rfl hI.out.hb)
      have B2 := Lib.hid (b_then B1.out hI.out.hb)
      by_cases hlt : k < 3
      · obtain ⟨x, hx⟩ : ∃ x, ws[k]? = some x := ⟨_, List.getElem?_eq_getElem (by rw [H5.out]; omega)⟩
        have c0 := cell_on (Hcell.out k x hx) rfl hI.out.hb
        unfold strV at c0
        have hkw : k < ws.length := by rw [H5.out]; omega
        have L := Lib.hid (l01Read_any (bsOf x) wr)
        rw [bsOf_data] at L
        cases hr : rdN x with
        | some y =>
          have hst := Lib.hid (hI.out.step hlt (Nat.le_refl _) hx hr)
          obtain ⟨cs, hBk, hcs, _⟩ := hI.out.hc
          have d0 := hBk.cell k
          have g0 := hBk.frozenT k
          obtain ⟨z, hz⟩ : ∃ z, cs[k]? = some z := ⟨cs[k]'(by omega), Array.getElem?_eq_getElem (by omega)⟩
          rw [hz] at d0
          rw [hr] at L
          clear hx hr hBk hcs hz hI K2 B2
          go_wp2_with fail
          refine L.out.mono ?_
          rintro e w2 ⟨⟨x', rfl, hx'⟩, rfl⟩
          obtain rfl := hx' y rfl
          go_wp2
          exact ⟨⟨k + 1, by go_num, by omega, hst⟩, by simp [intOf]; omega⟩
        | none =>
          have hR : R = none := by rw [← HW.out]; exact rtW_bad H5.out (okAll_bad3 hlt hx hr)
          have HR := Lib.hid hR
          rw [hr] at L
          (have k0 := K2.out.cell 0; have k1 := K2.out.cell 1; have k2 := K2.out.cell 2; have k3 := K2.out.cell 3; simp at k0 k1 k2 k3; have f0 := K2.out.frozenT 0; have f1 := K2.out.frozenT 1; have f2 := K2.out.frozenT 2; have f3 := K2.out.frozenT 3)
          clear hx hr hI hR
          go_wp2_with fail
          refine L.out.mono ?_
          rintro e w2 ⟨⟨x', rfl, hx'⟩, rfl⟩
          go_wp2
          refine bodyPost_ret (ret4t Tryd.results52 rfl ((((K2.out.set 0 _).set 1 _).set 2 _).set 3 _)) rfl (rdt_none HR.out ?_)
          (refine Below.setCell (p := ⟨w.heap.size, 3, none⟩) ?_ (Nat.le_refl _) _; refine Below.setCell (p := ⟨w.heap.size, 2, none⟩) ?_ (Nat.le_refl _) _; refine Below.setCell (p := ⟨w.heap.size, 1, none⟩) ?_ (Nat.le_refl _) _; refine Below.setCell (p := ⟨w.heap.size, 0, none⟩) ?_ (Nat.le_refl _) _)
          exact B2.out
      · obtain rfl : k = 3 := by omega
        have hok := hI.out.hok
        obtain ⟨cs, hBk, hcs, hcv⟩ := hI.out.hc
        rw [Hws.out] at hok hcv
        have hR := H5W.out
        rw [← Hws.out, HW.out, if_pos (show okAll [y0, y1, y2] = true from hok)] at hR
        have c4 := cell_on Q4.out rfl hI.out.hb
        have d0 := (hBk.cell 0).trans (hcv 0 (by omega))
        have d1 := (hBk.cell 1).trans (hcv 1 (by omega))
        have d2 := (hBk.cell 2).trans (hcv 2 (by omega))
        have hx5 : rdV [y0, y1, y2, y3] = [rnV (rdN y0), rnV (rdN y1), rnV (rdN y2), rnV (rdN y3)] := rfl
        rw [hx5] at d0 d1 d2
        simp at d0 d1 d2
        have hm : ∀ v, mkT (rdV [y0, y1, y2]) v = ⟨rnV (rdN y0), rnV (rdN y1), rnV (rdN y2), v⟩ := fun v => rfl
        simp only [hm] at hR
        generalize rnV (rdN y0) = x0 at *
        generalize rnV (rdN y1) = x1 at *
        generalize rnV (rdN y2) = x2 at *
        have HR0 := Lib.hid hR
        have h54i : (3 : Int) < ws.length := by omega
        clear hok hBk hcs hcv hx5 hR hI Hws I0 hm
        cases hn : nmb y3 with
        | none =>
          have hR := HR0.out
          rw [hn] at hR
          have HR : Hid (R = none) := Lib.hid hR
          have L := HNm.out wr
          rw [bsOf_data, hn] at L
          have L2 := Lib.hid L
          clear hn hR HR0 HNm L
          go_wp2_with fail
          refine L2.out.mono ?_
          rintro e w3 ⟨rfl, rfl⟩
          (have k0 := K2.out.cell 0; have k1 := K2.out.cell 1; have k2 := K2.out.cell 2; have k3 := K2.out.cell 3; simp at k0 k1 k2 k3; have f0 := K2.out.frozenT 0; have f1 := K2.out.frozenT 1; have f2 := K2.out.frozenT 2; have f3 := K2.out.frozenT 3)
          go_wp2
          refine bodyPost_ret (ret4t Tryd.results52 rfl ((((K2.out.set 0 _).set 1 _).set 2 _).set 3 _)) rfl (rdt_none HR.out ?_)
          (refine Below.setCell (p := ⟨w.heap.size, 3, none⟩) ?_ (Nat.le_refl _) _; refine Below.setCell (p := ⟨w.heap.size, 2, none⟩) ?_ (Nat.le_refl _) _; refine Below.setCell (p := ⟨w.heap.size, 1, none⟩) ?_ (Nat.le_refl _) _; refine Below.setCell (p := ⟨w.heap.size, 0, none⟩) ?_ (Nat.le_refl _) _)
          exact B2.out
        | some n =>
          have hR := HR0.out
          rw [hn] at hR
          have L := HNm.out wr
          rw [bsOf_data, hn] at L
          have L : Calls Tryd.prog 70 #[.string (bsOf y3)] wr (fun e w' => e = .returned (.tuple #[.int .i64 n, .bool true]) ∧ wr = w') := L
          have L2 := Lib.hid L
          have HR1 : Hid (R = if n ≤ 1 ∧ okT ⟨x0, x1, x2, n⟩ = true then some ⟨x0, x1, x2, n⟩ else none) := Lib.hid hR
          clear hn hR HR0 HNm L
          by_cases h1 : n ≤ 1
          · have wn : IntKind.i8.wrap (n : Int) = n := IntWalk.i8_in _ (by omega)
            have LO := Lib.hid (fun W => l06Ok_any ⟨x0, x1, x2, n⟩ (wf_one h1) W)
            have H1 := Lib.hid h1
            go_wp2_with fail
            refine L2.out.mono ?_
            rintro e w3 ⟨rfl, rfl⟩
            go_wp2_with fail
            refine (LO.out _).mono ?_
            rintro e w4 ⟨rfl, b4⟩
            have b34 : Below wr.heap.size wr w4 := b_then (b_alloc (Below.refl _ _) _) b4
            have N3 := Lib.hid (Blk.on (Blk.new wr #[.float .f32 x0, .float .f32 x1, .float .f32 x2, .int .i8 n] 72) rfl b4)
            have K4 := Lib.hid (K2.out.on rfl b34)
            have B4 := Lib.hid (b_then B2.out b34)
            clear b4 b34 K2 B2 d0 d1 d2 c4
            have K2 := K4
            have B2 := B4
            clear K4 B4
            (have k0 := K2.out.cell 0; have k1 := K2.out.cell 1; have k2 := K2.out.cell 2; have k3 := K2.out.cell 3; simp at k0 k1 k2 k3; have f0 := K2.out.frozenT 0; have f1 := K2.out.frozenT 1; have f2 := K2.out.frozenT 2; have f3 := K2.out.frozenT 3)
            have n0 := N3.out.cell 0; have n1 := N3.out.cell 1; have n2 := N3.out.cell 2; have n3 := N3.out.cell 3
            simp at n0 n1 n2 n3
            have hR := HR1.out
            cases hv : okT ⟨x0, x1, x2, n⟩
            · have HR : Hid (R = none) := Lib.hid (by rw [hR, hv]; simp)
              clear hv hR HR1
              go_wp2
              refine bodyPost_ret (ret4t Tryd.results52 rfl ((((K2.out.set 0 _).set 1 _).set 2 _).set 3 _)) rfl (rdt_none HR.out ?_)
              (refine Below.setCell (p := ⟨w.heap.size, 3, none⟩) ?_ (Nat.le_refl _) _; refine Below.setCell (p := ⟨w.heap.size, 2, none⟩) ?_ (Nat.le_refl _) _; refine Below.setCell (p := ⟨w.heap.size, 1, none⟩) ?_ (Nat.le_refl _) _; refine Below.setCell (p := ⟨w.heap.size, 0, none⟩) ?_ (Nat.le_refl _) _)
              exact B2.out
            · have HR : Hid (R = some ⟨x0, x1, x2, n⟩) := Lib.hid (by rw [hR, hv, if_pos ⟨H1.out, rfl⟩])
              clear hv hR HR1
              go_wp2
              refine bodyPost_ret (ret4t Tryd.results52 rfl ((((K2.out.set 0 _).set 1 _).set 2 _).set 3 _)) rfl (rdt_some (T := ⟨x0, x1, x2, n⟩) HR.out ?_)
              (refine Below.setCell (p := ⟨w.heap.size, 3, none⟩) ?_ (Nat.le_refl _) _; refine Below.setCell (p := ⟨w.heap.size, 2, none⟩) ?_ (Nat.le_refl _) _; refine Below.setCell (p := ⟨w.heap.size, 1, none⟩) ?_ (Nat.le_refl _) _; refine Below.setCell (p := ⟨w.heap.size, 0, none⟩) ?_ (Nat.le_refl _) _)
              exact B2.out
          · have HR : Hid (R = none) := Lib.hid (by rw [HR1.out, if_neg (fun h => h1 h.1)])
            have h1i : 1 < (n : Int) := by omega
            clear HR1 h1
            (have k0 := K2.out.cell 0; have k1 := K2.out.cell 1; have k2 := K2.out.cell 2; have k3 := K2.out.cell 3; simp at k0 k1 k2 k3; have f0 := K2.out.frozenT 0; have f1 := K2.out.frozenT 1; have f2 := K2.out.frozenT 2; have f3 := K2.out.frozenT 3)
            go_wp2_with fail
            refine L2.out.mono ?_
            rintro e w3 ⟨rfl, rfl⟩
            go_wp2
            refine bodyPost_ret (ret4t Tryd.results52 rfl ((((K2.out.set 0 _).set 1 _).set 2 _).set 3 _)) rfl (rdt_none HR.out ?_)
            (refine Below.setCell (p := ⟨w.heap.size, 3, none⟩) ?_ (Nat.le_refl _) _; refine Below.setCell (p := ⟨w.heap.size, 2, none⟩) ?_ (Nat.le_refl _) _; refine Below.setCell (p := ⟨w.heap.size, 1, none⟩) ?_ (Nat.le_refl _) _; refine Below.setCell (p := ⟨w.heap.size, 0, none⟩) ?_ (Nat.le_refl _) _)
            exact B2.out
  · have h5i : ((ws.length : Int) != 4) = true := by
      have : ¬ ((ws.length : Int) = 4) := by omega
      simpa using this
    have hR : R = none := by rw [← HW.out]; unfold rtW; rw [if_neg h5]
    have HR := Lib.hid hR
    have K2 := K1
    have B2 := B1
    (have k0 := K2.out.cell 0; have k1 := K2.out.cell 1; have k2 := K2.out.cell 2; have k3 := K2.out.cell 3; simp at k0 k1 k2 k3; have f0 := K2.out.frozenT 0; have f1 := K2.out.frozenT 1; have f2 := K2.out.frozenT 2; have f3 := K2.out.frozenT 3)
    clear hR h5 K1 B1
    go_wp2
    refine bodyPost_ret (ret4t Tryd.results52 rfl ((((K2.out.set 0 _).set 1 _).set 2 _).set 3 _)) rfl (rdt_none HR.out ?_)
    (refine Below.setCell (p := ⟨w.heap.size, 3, none⟩) ?_ (Nat.le_refl _) _; refine Below.setCell (p := ⟨w.heap.size, 2, none⟩) ?_ (Nat.le_refl _) _; refine Below.setCell (p := ⟨w.heap.size, 1, none⟩) ?_ (Nat.le_refl _) _; refine Below.setCell (p := ⟨w.heap.size, 0, none⟩) ?_ (Nat.le_refl _) _)
    exact B2.out
set_option maxHeartbeats 4000000 in
theorem walk_FnExactReadTooth (t : ByteArray) (wt : t.size ≤ maxLen) (w : World) (hT : TbAt w) (hE : TeAt w) (hM : TmAt w) :
    Calls Tryd.prog 14 #[.string t] w fun e w' => e = .returned (.bool true) ∧ Below w.heap.size w w' := by
  have HT := Lib.hid hT; have HE := Lib.hid hE; have HM := Lib.hid hM
  clear hT hE hM
  unfold maxLen at wt
  by_cases hz : 1048576 < (t.size : Int)
  · go_enter Tryd.func14, Tryd.ntmps14
    go_wp2
    go_ret
    exact ⟨rfl, Below.refl _ _⟩
  · have hs : t.size ≤ 1048576 := by omega
    have L1 := Lib.hid (specReadTooth_any t hs w)
    have L2 := Lib.hid (fun W h1 h2 h3 => implReadTooth_any t hs W h1 h2 h3)
    unfold RdT at L1 L2
    generalize thD (rtS t.data.toList) = T at *
    generalize thK (rtS t.data.toList) = K at *
    have LQ := Lib.hid (fun W => eqTh_same T T rfl W)
    clear hs
    go_enter Tryd.func14, Tryd.ntmps14
    go_wp2_with fail
    refine L1.out.mono ?_
    rintro e w1 ⟨rfl, b1⟩
    have B1 := Lib.hid b1
    clear b1
    go_wp2_with fail
    have B2 := Lib.hid (b_alloc B1.out (.cells #[.float .f32 T.h, .float .f32 T.u, .float .f32 T.v, .int .i8 T.s] 72))
    have A1 := Lib.hid (Blk.new w1 #[.float .f32 T.h, .float .f32 T.u, .float .f32 T.v, .int .i8 T.s] 72)
    refine (L2.out _ (HT.out.below B2.out) (HE.out.below B2.out) (HM.out.below B2.out)).mono ?_
    rintro e w3 ⟨rfl, b3⟩
    have B3 := Lib.hid (b_then B2.out b3)
    have A3 := Lib.hid (A1.out.on rfl b3)
    clear b3
    have hlt := A3.out.lt
    have k0 := A3.out.cell 0; have k1 := A3.out.cell 1; have k2 := A3.out.cell 2; have k3 := A3.out.cell 3
    simp at k0 k1 k2 k3
    go_wp2_with fail
    clear k0 k1 k2 k3
    refine (LQ.out _).mono ?_
    rintro e w5 ⟨rfl, b5⟩
    have B5 := Lib.hid (b_then (b_alloc B3.out _) b5)
    clear b5
    go_wp2
    go_ret
    exact ⟨rfl, B5.out⟩
end Go.Proofs.YtkkcihgnpephiaaDoor
