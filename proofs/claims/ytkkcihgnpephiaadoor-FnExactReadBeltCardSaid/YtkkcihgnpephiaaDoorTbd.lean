/-
  A belt read from its text: the model's; the law.
-/
import Derived.Test.YtkkcihgnpephiaaDoorTbc
import Derived.Test.YtkkcihgnpephiaaDoorTsc
namespace Go.Proofs.YtkkcihgnpephiaaDoor
open Go.RowKit Go.ChangeShapes Go.WideShapes Go.Deep
attribute [local go_sem ↓] Go.wp_at_zero Go.wp_at_succ
set_option linter.unusedVariables false
set_option linter.unusedSimpArgs false
set_option maxRecDepth 100000
theorem opL : (⟨#[111, 112, 101, 110]⟩ : ByteArray).toList = [111, 112, 101, 110] := by simp
theorem eqO (y : List UInt8) : ((bsOf y).toList == [111, 112, 101, 110]) = isOp y := by
  have h := beq_bs y ⟨#[111, 112, 101, 110]⟩
  rw [opL] at h
  exact h
theorem eqC (y : List UInt8) : ((bsOf y).toList == [99, 114, 111, 115, 115, 101, 100]) = isCr y := by
  have h := beq_bs y ⟨#[99, 114, 111, 115, 115, 101, 100]⟩
  rw [crL] at h
  exact h
theorem bne_of {l m : List UInt8} {x : Bool} (h : (l == m) = x) : (l != m) = !x := by rw [← h]; rfl
theorem rgP_step {b o q1 x0 x1 x2 x3 q : Nat} {E : ByteArray} {w W w' : World} (h : W.cell? ⟨q1, 0, none⟩ = some (.float .f32 x0) ∧ W.cell? ⟨q1, 1, none⟩ = some (.float .f32 x1) ∧ W.cell? ⟨q1, 2, none⟩ = some (.float .f32 x2) ∧ W.cell? ⟨q1, 3, none⟩ = some (.float .f32 x3) ∧ W.cell? ⟨b, o + 4, none⟩ = some (.string E) ∧ Hid (Blk W q #[.float .f32 0, .float .f32 0, .float .f32 0, .float .f32 0, .bool false] 44) ∧ Hid (Below w.heap.size w W)) (b' : Below W.heap.size W w') : w'.cell? ⟨q1, 0, none⟩ = some (.float .f32 x0) ∧ w'.cell? ⟨q1, 1, none⟩ = some (.float .f32 x1) ∧ w'.cell? ⟨q1, 2, none⟩ = some (.float .f32 x2) ∧ w'.cell? ⟨q1, 3, none⟩ = some (.float .f32 x3) ∧ w'.cell? ⟨b, o + 4, none⟩ = some (.string E) ∧ Hid (Blk w' q #[.float .f32 0, .float .f32 0, .float .f32 0, .float .f32 0, .bool false] 44) ∧ Hid (Below w.heap.size w w') :=
  ⟨cell_on h.1 rfl b', cell_on h.2.1 rfl b', cell_on h.2.2.1 rfl b', cell_on h.2.2.2.1 rfl b', cell_on h.2.2.2.2.1 rfl b', Lib.hid (h.2.2.2.2.2.1.out.on rfl b'), Lib.hid (b_then h.2.2.2.2.2.2.out b')⟩
theorem rbW_notword {a b c d e : List UInt8} (h1 : isCr e = false) (h2 : isOp e = false) : rbW [a, b, c, d, e] = none := by
  rw [rbW5, h1, h2]
  split <;> rfl
theorem rbW_bad {ws : List (List UInt8)} (h5 : ws.length = 5) (h : okAll (ws.take 4) = false) : rbW ws = none := by
  unfold rbW
  rw [if_pos h5, h]; rfl
theorem okAll_bad4 {ws : List (List UInt8)} {k : Nat} {x : List UInt8} (hk : k < 4) (hx : ws[k]? = some x) (hr : rdN x = none) : okAll (ws.take 4) = false := by
  refine okAll_bad (k := k) (x := x) ?_ hr
  rw [List.getElem?_take_of_lt hk]; exact hx
set_option maxHeartbeats 4000000 in
theorem specReadBelt_any (t : ByteArray) (hs : t.size ≤ 1048576) (w : World) : Calls Tryd.prog 32 #[.string t] w (RdB (rbS t.data.toList) w) := by
  have b0 := b_alloc (Below.refl _ w) (.cells #[.float .f32 0, .float .f32 0, .float .f32 0, .float .f32 0, .bool false] 44)
  have HS := Lib.hid (l01Split_any t 32 hs (w.alloc (.cells #[.float .f32 0, .float .f32 0, .float .f32 0, .float .f32 0, .bool false] 44)))
  have K0 := Lib.hid (Blk.new w #[.float .f32 0, .float .f32 0, .float .f32 0, .float .f32 0, .bool false] 44)
  have B0 := Lib.hid b0
  have HW := Lib.hid (show rbW (spl 32 t.data.toList) = rbS t.data.toList from rfl)
  clear b0
  generalize rbS t.data.toList = R at *
  have hln : (spl 32 t.data.toList).length ≤ 1048577 := Nat.le_trans (spl_le 32 t.data.toList) (by rw [← Lib.size_eq]; omega)
  generalize spl 32 t.data.toList = ws at *
  go_enter Tryd.func32, Tryd.ntmps32
  go_wp2_with fail
  refine HS.out.mono ?_
  rintro e w1 ⟨v1, rfl, hst, b1⟩
  have K1 := Lib.hid (K0.out.on rfl b1)
  have B1 := Lib.hid (b_then B0.out b1)
  obtain ⟨b, o, c, rfl, hb, hlc, hcm, hcell⟩ := hst
  have Hcell := Lib.hid hcell
  have hq0 := K1.out.lt
  clear hcell HS B0 K0 b1
  by_cases h5 : ws.length = 5
  · have h5i : ((ws.length : Int) != 5) = false := by rw [h5]; rfl
    have H5 := Lib.hid h5
    obtain ⟨y0, y1, y2, y3, y4, hy⟩ := l5w h5
    have Hws := Lib.hid hy
    have h54 : 4 < ws.length := by omega
    have q4 : w1.cell? ⟨b, o + 4, none⟩ = some (strV y4) := Hcell.out 4 y4 (by rw [hy]; rfl)
    unfold strV at q4
    have hcr := eqC y4
    have hop := eqO y4
    have hcn := bne_of hcr
    have hon := bne_of hop
    have HbE := Lib.hid (show bsOf y4 = bsOf y4 from rfl)
    have I0 := Lib.hid (show NmI 4 w1.heap.size 111 ws 0 w1 (w1.alloc (.cells #[.float .f32 0, .float .f32 0, .float .f32 0, .float .f32 0] 111)) from ⟨rfl, b_alloc (Below.refl _ _) _, _, Blk.new _ _ _, rfl, fun j h => absurd h (by omega)⟩)
    have HnW := Lib.hid (fun h1 h2 => @rbW_notword y0 y1 y2 y3 y4 h1 h2)
    have H5W := Lib.hid (rbW5 y0 y1 y2 y3 y4)
    generalize hE : bsOf y4 = E at *
    generalize hxo : isOp y4 = xo at *
    generalize hxb : isCr y4 = xb at *
    clear h5 hy hE hxo hxb
    have Q4 := Lib.hid q4
    have Hcr := Lib.hid hcr
    have hgo : (xb = false ∧ xo = false) ∨ (xb || xo) = true := by cases xb <;> cases xo <;> simp
    rcases hgo with ⟨hb1, hb2⟩ | hor
    · have hR : R = none := by rw [← HW.out, Hws.out]; exact HnW.out hb1 hb2
      rw [hb1] at hcr hcn
      rw [hb2] at hop hon
      simp only [Bool.not_false, Bool.not_true] at hcn hon
      have HR := Lib.hid hR
      have K2 := K1
      have B2 := B1
      (have k0 := K2.out.cell 0; have k1 := K2.out.cell 1; have k2 := K2.out.cell 2; have k3 := K2.out.cell 3; have k4 := K2.out.cell 4; simp at k0 k1 k2 k3 k4; have f0 := K2.out.frozenT 0; have f1 := K2.out.frozenT 1; have f2 := K2.out.frozenT 2; have f3 := K2.out.frozenT 3; have f4 := K2.out.frozenT 4)
      clear hR K1 B1
      go_wp2
      refine bodyPost_ret (ret5 Tryd.results32 rfl (((((K2.out.set 0 _).set 1 _).set 2 _).set 3 _).set 4 _)) rfl (rdb_none HR.out ?_)
      (refine Below.setCell (p := ⟨w.heap.size, 4, none⟩) ?_ (Nat.le_refl _) _; refine Below.setCell (p := ⟨w.heap.size, 3, none⟩) ?_ (Nat.le_refl _) _; refine Below.setCell (p := ⟨w.heap.size, 2, none⟩) ?_ (Nat.le_refl _) _; refine Below.setCell (p := ⟨w.heap.size, 1, none⟩) ?_ (Nat.le_refl _) _; refine Below.setCell (p := ⟨w.heap.size, 0, none⟩) ?_ (Nat.le_refl _) _)
      exact B2.out
    · have H5V : Hid (okAll [y0, y1, y2, y3] = true → rbW [y0, y1, y2, y3, y4] = if okB (mkB (rdV [y0, y1, y2, y3]) xb) = true then some (mkB (rdV [y0, y1, y2, y3]) xb) else none) := Lib.hid (fun h => by rw [H5W.out, hor, h]; simp)
      clear HnW H5W
      rcases (show (xb = false ∧ xo = true) ∨ (xb = true ∧ xo = false) ∨ (xb = true ∧ xo = true) by revert hor; cases xb <;> cases xo <;> simp) with ⟨hb1, hb2⟩ | ⟨hb1, hb2⟩ | ⟨hb1, hb2⟩
      all_goals
        rw [hb1] at hcr hcn
        rw [hb2] at hop hon
        clear hor hb1 hb2
        simp only [Bool.not_false, Bool.not_true] at hcn hon
        go_wp2_with fail

        clear hcn hon hcr hop h5i q4
        generalize (w1.alloc (.cells #[.float .f32 0, .float .f32 0, .float .f32 0, .float .f32 0] 111)) = W1 at *
        go_loopw [6] (fun vi wr => ∃ (k : Nat), vi = .int .i64 k ∧ k ≤ 4 ∧ Hid (NmI 4 w1.heap.size 111 ws k w1 wr)) (fun vi _ => 4 - (intOf vi).toNat)
        case atStart => exact ⟨0, rfl, by omega, I0⟩
        case round =>
          obtain ⟨k, rfl, hk, hI⟩ := hrel
          have K2 := Lib.hid (K1.out.on rfl hI.out.hb)
          have B2 := Lib.hid (b_then B1.out hI.out.hb)
          by_cases hlt : k < 4
          · obtain ⟨x, hx⟩ : ∃ x, ws[k]? = some x := ⟨_, List.getElem?_eq_getElem (by rw [H5.out]; omega)⟩
            have c0 := cell_on (Hcell.out k x hx) rfl hI.out.hb
            unfold strV at c0
            have hkw : k < ws.length := by rw [H5.out]; omega
            have L := Lib.hid (l01Read_any (bsOf x) wr)
            rw [bsOf_data] at L
            cases hr : rdN x with
            | some y =>
              have hst := Lib.hid (hI.out.step hlt (Nat.le_refl _) hx hr)
              obtain ⟨cs, hBk, hcs, _⟩ := hI.out.hc
              have d0 := hBk.cell k
              have g0 := hBk.frozenT k
              obtain ⟨z, hz⟩ : ∃ z, cs[k]? = some z := ⟨cs[k]'(by omega), Array.getElem?_eq_getElem (by omega)⟩
              rw [hz] at d0
              rw [hr] at L
              clear hx hr hBk hcs hz hI K2 B2
              go_wp2_with fail
              refine L.out.mono ?_
              rintro e w2 ⟨⟨x', rfl, hx'⟩, rfl⟩
              obtain rfl := hx' y rfl
              go_wp2
              exact ⟨⟨k + 1, by go_num, by omega, hst⟩, by simp [intOf]; omega⟩
            | none =>
              have hR : R = none := by rw [← HW.out]; exact rbW_bad H5.out (okAll_bad4 hlt hx hr)
              have HR := Lib.hid hR
              rw [hr] at L
              (have k0 := K2.out.cell 0; have k1 := K2.out.cell 1; have k2 := K2.out.cell 2; have k3 := K2.out.cell 3; have k4 := K2.out.cell 4; simp at k0 k1 k2 k3 k4; have f0 := K2.out.frozenT 0; have f1 := K2.out.frozenT 1; have f2 := K2.out.frozenT 2; have f3 := K2.out.frozenT 3; have f4 := K2.out.frozenT 4)
              clear hx hr hI hR
              go_wp2_with fail
              refine L.out.mono ?_
              rintro e w2 ⟨⟨x', rfl, hx'⟩, rfl⟩
              go_wp2
              refine bodyPost_ret (ret5 Tryd.results32 rfl (((((K2.out.set 0 _).set 1 _).set 2 _).set 3 _).set 4 _)) rfl (rdb_none HR.out ?_)
              (refine Below.setCell (p := ⟨w.heap.size, 4, none⟩) ?_ (Nat.le_refl _) _; refine Below.setCell (p := ⟨w.heap.size, 3, none⟩) ?_ (Nat.le_refl _) _; refine Below.setCell (p := ⟨w.heap.size, 2, none⟩) ?_ (Nat.le_refl _) _; refine Below.setCell (p := ⟨w.heap.size, 1, none⟩) ?_ (Nat.le_refl _) _; refine Below.setCell (p := ⟨w.heap.size, 0, none⟩) ?_ (Nat.le_refl _) _)
              exact B2.out
          · obtain rfl : k = 4 := by omega
            have hok := hI.out.hok
            obtain ⟨cs, hBk, hcs, hcv⟩ := hI.out.hc
            rw [Hws.out] at hok hcv
            have hR := H5V.out hok
            rw [← Hws.out, HW.out] at hR
            have c4 := cell_on Q4.out rfl hI.out.hb
            have d0 := (hBk.cell 0).trans (hcv 0 (by omega))
            have d1 := (hBk.cell 1).trans (hcv 1 (by omega))
            have d2 := (hBk.cell 2).trans (hcv 2 (by omega))
            have d3 := (hBk.cell 3).trans (hcv 3 (by omega))
            have hx : rdV [y0, y1, y2, y3] = [rnV (rdN y0), rnV (rdN y1), rnV (rdN y2), rnV (rdN y3)] := rfl
            rw [hx] at hR
            have hx5 : rdV [y0, y1, y2, y3, y4] = [rnV (rdN y0), rnV (rdN y1), rnV (rdN y2), rnV (rdN y3), rnV (rdN y4)] := rfl
            rw [hx5] at d0 d1 d2 d3
            simp at d0 d1 d2 d3
            unfold mkB at hR
            simp only [List.getD_cons_zero, List.getD_cons_succ] at hR
            generalize rnV (rdN y0) = x0 at *
            generalize rnV (rdN y1) = x1 at *
            generalize rnV (rdN y2) = x2 at *
            generalize rnV (rdN y3) = x3 at *
            have HR0 := Lib.hid hR
            have C2 : wr.cell? ⟨w1.heap.size, 0, none⟩ = some (.float .f32 x0) ∧ wr.cell? ⟨w1.heap.size, 1, none⟩ = some (.float .f32 x1) ∧ wr.cell? ⟨w1.heap.size, 2, none⟩ = some (.float .f32 x2) ∧ wr.cell? ⟨w1.heap.size, 3, none⟩ = some (.float .f32 x3) ∧ wr.cell? ⟨b, o + 4, none⟩ = some (.string E) ∧ Hid (Blk wr w.heap.size #[.float .f32 0, .float .f32 0, .float .f32 0, .float .f32 0, .bool false] 44) ∧ Hid (Below w.heap.size w wr) := ⟨d0, d1, d2, d3, c4, K2, B2⟩
            clear hok hBk hcs hcv hx hx5 hR hI H5V Hws I0
            rw [H5.out]
            have h55 : 5 ≤ c := by rw [H5.out] at hlc; exact hlc
            go_wp2
            go_region_held3 (fun w' => w'.cell? ⟨w1.heap.size, 0, none⟩ = some (.float .f32 x0) ∧ w'.cell? ⟨w1.heap.size, 1, none⟩ = some (.float .f32 x1) ∧ w'.cell? ⟨w1.heap.size, 2, none⟩ = some (.float .f32 x2) ∧ w'.cell? ⟨w1.heap.size, 3, none⟩ = some (.float .f32 x3) ∧ w'.cell? ⟨b, o + 4, none⟩ = some (.string E) ∧ Hid (Blk w' w.heap.size #[.float .f32 0, .float .f32 0, .float .f32 0, .float .f32 0, .bool false] 44) ∧ Hid (Below w.heap.size w w'))
              (first
                | exact rgP_step C2 (b_drew (Below.refl _ _))
                | exact rgP_step C2 (b_alloc (Below.refl _ _) _)
                | exact rgP_step C2 (b_drew (b_alloc (Below.refl _ _) _))
                | assumption)
              (first | fail)
            clear C2 d0 d1 d2 d3 c4
            go_wp2_with fail
            rw [Hcr.out]
            have N0 := Blk.on (Blk.new wr #[.float .f32 x0, .float .f32 x1, .float .f32 x2, .float .f32 x3, .bool xb] 44) rfl (b_drew (Below.refl _ _))
            refine (l02Ok_any ⟨x0, x1, x2, x3, xb⟩ _ _ (N0.cell 0) (N0.cell 1) (N0.cell 2) (N0.cell 3)).mono ?_
            clear N0
            rintro e w3 ⟨rfl, n3, rfl⟩
            have b23 : Below wr.heap.size wr (World.drewN (wr.alloc (.cells #[.float .f32 x0, .float .f32 x1, .float .f32 x2, .float .f32 x3, .bool xb] 44)).drew n3) := b_drewN (b_drew (b_alloc (Below.refl _ _) _)) _
            have N3 := Lib.hid (Blk.on (Blk.new wr #[.float .f32 x0, .float .f32 x1, .float .f32 x2, .float .f32 x3, .bool xb] 44) rfl (b_drewN (b_drew (Below.refl _ _)) n3))
            have K3 := Lib.hid (K2.out.on rfl b23)
            have B3 := Lib.hid (b_then B2.out b23)
            clear b23 K2 B2
            have K2 := K3
            have B2 := B3
            clear K3 B3
            generalize (World.drewN (wr.alloc (.cells #[.float .f32 x0, .float .f32 x1, .float .f32 x2, .float .f32 x3, .bool xb] 44)).drew n3) = w3 at *
            (have k0 := K2.out.cell 0; have k1 := K2.out.cell 1; have k2 := K2.out.cell 2; have k3 := K2.out.cell 3; have k4 := K2.out.cell 4; simp at k0 k1 k2 k3 k4; have f0 := K2.out.frozenT 0; have f1 := K2.out.frozenT 1; have f2 := K2.out.frozenT 2; have f3 := K2.out.frozenT 3; have f4 := K2.out.frozenT 4)
            have n0 := N3.out.cell 0; have n1 := N3.out.cell 1; have n2 := N3.out.cell 2; have n3' := N3.out.cell 3; have n4 := N3.out.cell 4
            simp at n0 n1 n2 n3' n4
            cases hv : okB ⟨x0, x1, x2, x3, xb⟩
            · have hR := HR0.out
              rw [hv] at hR
              have HR : Hid (R = none) := Lib.hid hR
              clear hv hR
              go_wp2
              refine bodyPost_ret (ret5 Tryd.results32 rfl (((((K2.out.set 0 _).set 1 _).set 2 _).set 3 _).set 4 _)) rfl (rdb_none HR.out ?_)
              (refine Below.setCell (p := ⟨w.heap.size, 4, none⟩) ?_ (Nat.le_refl _) _; refine Below.setCell (p := ⟨w.heap.size, 3, none⟩) ?_ (Nat.le_refl _) _; refine Below.setCell (p := ⟨w.heap.size, 2, none⟩) ?_ (Nat.le_refl _) _; refine Below.setCell (p := ⟨w.heap.size, 1, none⟩) ?_ (Nat.le_refl _) _; refine Below.setCell (p := ⟨w.heap.size, 0, none⟩) ?_ (Nat.le_refl _) _)
              exact B2.out
            · have hR := HR0.out
              rw [hv] at hR
              have HR : Hid (R = some ⟨x0, x1, x2, x3, xb⟩) := Lib.hid hR
              clear hv hR
              go_wp2
              refine bodyPost_ret (ret5 Tryd.results32 rfl (((((K2.out.set 0 _).set 1 _).set 2 _).set 3 _).set 4 _)) rfl (rdb_some (T := ⟨x0, x1, x2, x3, xb⟩) HR.out ?_)
              (refine Below.setCell (p := ⟨w.heap.size, 4, none⟩) ?_ (Nat.le_refl _) _; refine Below.setCell (p := ⟨w.heap.size, 3, none⟩) ?_ (Nat.le_refl _) _; refine Below.setCell (p := ⟨w.heap.size, 2, none⟩) ?_ (Nat.le_refl _) _; refine Below.setCell (p := ⟨w.heap.size, 1, none⟩) ?_ (Nat.le_refl _) _; refine Below.setCell (p := ⟨w.heap.size, 0, none⟩) ?_ (Nat.le_refl _) _)
              exact B2.out
  · have h5i : ((ws.length : Int) != 5) = true := by
      have : ¬ ((ws.length : Int) = 5) := by omega
      simpa using this
    have hR : R = none := by rw [← HW.out]; unfold rbW; rw [if_neg h5]
    have HR := Lib.hid hR
    have K2 := K1
    have B2 := B1
    (have k0 := K2.out.cell 0; have k1 := K2.out.cell 1; have k2 := K2.out.cell 2; have k3 := K2.out.cell 3; have k4 := K2.out.cell 4; simp at k0 k1 k2 k3 k4; have f0 := K2.out.frozenT 0; have f1 := K2.out.frozenT 1; have f2 := K2.out.frozenT 2; have f3 := K2.out.frozenT 3; have f4 := K2.out.frozenT 4)
    clear hR h5 K1 B1
    go_wp2
    refine bodyPost_ret (ret5 Tryd.results32 rfl (((((K2.out.set 0 _).set 1 _).set 2 _).set 3 _).set 4 _)) rfl (rdb_none HR.out ?_)
    (refine Below.setCell (p := ⟨w.heap.size, 4, none⟩) ?_ (Nat.le_refl _) _; refine Below.setCell (p := ⟨w.heap.size, 3, none⟩) ?_ (Nat.le_refl _) _; refine Below.setCell (p := ⟨w.heap.size, 2, none⟩) ?_ (Nat.le_refl _) _; refine Below.setCell (p := ⟨w.heap.size, 1, none⟩) ?_ (Nat.le_refl _) _; refine Below.setCell (p := ⟨w.heap.size, 0, none⟩) ?_ (Nat.le_refl _) _)
    exact B2.out
set_option maxHeartbeats 4000000 in
theorem walk_FnExactReadBelt (t : ByteArray) (wt : t.size ≤ maxLen) (w : World) (hT : TbAt w) (hE : TeAt w) (hM : TmAt w) :
    Calls Tryd.prog 8 #[.string t] w fun e w' => e = .returned (.bool true) ∧ Below w.heap.size w w' := by
  have HT := Lib.hid hT; have HE := Lib.hid hE; have HM := Lib.hid hM
  clear hT hE hM
  unfold maxLen at wt
  by_cases hz : 1048576 < (t.size : Int)
  · go_enter Tryd.func8, Tryd.ntmps8
    go_wp2
    go_ret
    exact ⟨rfl, Below.refl _ _⟩
  · have hs : t.size ≤ 1048576 := by omega
    have L1 := Lib.hid (specReadBelt_any t hs w)
    have L2 := Lib.hid (fun W h1 h2 h3 => implReadBelt_any t hs W h1 h2 h3)
    unfold RdB at L1 L2
    generalize blD (rbS t.data.toList) = T at *
    generalize blK (rbS t.data.toList) = K at *
    have LQ := Lib.hid (fun W => eqBelt_same T W)
    clear hs
    go_enter Tryd.func8, Tryd.ntmps8
    go_wp2_with fail
    refine L1.out.mono ?_
    rintro e w1 ⟨rfl, b1⟩
    have B1 := Lib.hid b1
    clear b1
    go_wp2_with fail
    have B2 := Lib.hid (b_alloc B1.out (.cells #[.float .f32 T.a, .float .f32 T.b, .float .f32 T.ap, .float .f32 T.g, .bool T.x] 44))
    have A1 := Lib.hid (Blk.new w1 #[.float .f32 T.a, .float .f32 T.b, .float .f32 T.ap, .float .f32 T.g, .bool T.x] 44)
    refine (L2.out _ (HT.out.below B2.out) (HE.out.below B2.out) (HM.out.below B2.out)).mono ?_
    rintro e w3 ⟨rfl, b3⟩
    have B3 := Lib.hid (b_then B2.out b3)
    have A3 := Lib.hid (A1.out.on rfl b3)
    clear b3
    have hlt := A3.out.lt
    have k0 := A3.out.cell 0; have k1 := A3.out.cell 1; have k2 := A3.out.cell 2; have k3 := A3.out.cell 3; have k4 := A3.out.cell 4
    simp at k0 k1 k2 k3 k4
    go_wp2_with fail
    clear k0 k1 k2 k3 k4
    refine (LQ.out _).mono ?_
    rintro e w5 ⟨rfl, b5⟩
    have B5 := Lib.hid (b_then (b_alloc B3.out _) b5)
    clear b5
    go_wp2
    go_ret
    exact ⟨rfl, B5.out⟩
end Go.Proofs.YtkkcihgnpephiaaDoor
