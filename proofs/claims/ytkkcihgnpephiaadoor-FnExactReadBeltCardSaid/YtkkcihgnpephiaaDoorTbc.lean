/-
  A belt read from its text: the program's.
-/
import Derived.Test.YtkkcihgnpephiaaDoorTbb
namespace Go.Proofs.YtkkcihgnpephiaaDoor
open Go.RowKit Go.ChangeShapes Go.WideShapes Go.Deep
attribute [local go_sem ↓] Go.wp_at_zero Go.wp_at_succ
set_option linter.unusedVariables false
set_option linter.unusedSimpArgs false
set_option maxRecDepth 100000
theorem crL : (⟨#[99, 114, 111, 115, 115, 101, 100]⟩ : ByteArray).toList = [99, 114, 111, 115, 115, 101, 100] := by simp
theorem rgM_step {b o b2 o2 x0 x1 x2 x3 q : Nat} {E : ByteArray} {w W w' : World} (h : W.cell? ⟨b2, o2, none⟩ = some (.float .f32 x0) ∧ W.cell? ⟨b2, o2 + 1, none⟩ = some (.float .f32 x1) ∧ W.cell? ⟨b2, o2 + 2, none⟩ = some (.float .f32 x2) ∧ W.cell? ⟨b2, o2 + 3, none⟩ = some (.float .f32 x3) ∧ W.cell? ⟨b, o + 4, none⟩ = some (.string E) ∧ Hid (Blk W q #[.float .f32 0, .float .f32 0, .float .f32 0, .float .f32 0, .bool false] 44) ∧ Hid (Below w.heap.size w W)) (b' : Below W.heap.size W w') : w'.cell? ⟨b2, o2, none⟩ = some (.float .f32 x0) ∧ w'.cell? ⟨b2, o2 + 1, none⟩ = some (.float .f32 x1) ∧ w'.cell? ⟨b2, o2 + 2, none⟩ = some (.float .f32 x2) ∧ w'.cell? ⟨b2, o2 + 3, none⟩ = some (.float .f32 x3) ∧ w'.cell? ⟨b, o + 4, none⟩ = some (.string E) ∧ Hid (Blk w' q #[.float .f32 0, .float .f32 0, .float .f32 0, .float .f32 0, .bool false] 44) ∧ Hid (Below w.heap.size w w') :=
  ⟨cell_on h.1 rfl b', cell_on h.2.1 rfl b', cell_on h.2.2.1 rfl b', cell_on h.2.2.2.1 rfl b', cell_on h.2.2.2.2.1 rfl b', Lib.hid (h.2.2.2.2.2.1.out.on rfl b'), Lib.hid (b_then h.2.2.2.2.2.2.out b')⟩
set_option maxHeartbeats 4000000 in
theorem implReadBelt_any (t : ByteArray) (hs : t.size ≤ 1048576) (w : World) (hT : TbAt w) (hE : TeAt w) (hM : TmAt w) : Calls Tryd.prog 33 #[.string t] w (RdB (rbS t.data.toList) w) := by
  have b0 := b_alloc (Below.refl _ w) (.cells #[.float .f32 0, .float .f32 0, .float .f32 0, .float .f32 0, .bool false] 44)
  have HS := Lib.hid (splitN_any t 32 6 (by decide) (by decide) hs (w.alloc (.cells #[.float .f32 0, .float .f32 0, .float .f32 0, .float .f32 0, .bool false] 44)) (hM.below b0))
  have K0 := Lib.hid (Blk.new w #[.float .f32 0, .float .f32 0, .float .f32 0, .float .f32 0, .bool false] 44)
  have HT := Lib.hid (hT.below b0); have HE := Lib.hid (hE.below b0); have B0 := Lib.hid b0
  have hp := splitN_pos 32 6 t.data.toList (by decide)
  have Hsh : Hid (∀ x ∈ Lib.splitN t.data.toList [32] 6, x.length ≤ 1048576) := fun x hx => Nat.le_trans (splitN_short hx) (by rw [← Lib.size_eq]; exact hs)
  have Hyes := Lib.hid (rb_len t.data.toList)
  have Hno := Lib.hid (rb_nolen t.data.toList)
  have Hrb := Lib.hid (show rbS t.data.toList = rbW (spl 32 t.data.toList) from rfl)
  have Htx := Lib.hid (fun a b c d e => @rb_text t.data.toList a b c d e)
  have Hbq := Lib.hid (fun l => beq_bs l t)
  obtain ⟨hp1, hp2⟩ := hp
  clear hT hE hM b0
  generalize rbS t.data.toList = R at *
  generalize t.data.toList = l at *
  generalize Lib.splitN l [32] 6 = ws at *
  go_enter Tryd.func33, Tryd.ntmps33
  go_wp2_with fail
  refine HS.out.mono ?_
  rintro e w1 ⟨v1, rfl, hst, b1⟩
  have K1 := Lib.hid (K0.out.on rfl b1)
  have HT1 := Lib.hid (HT.out.below b1); have HE1 := Lib.hid (HE.out.below b1); have B1 := Lib.hid (b_then B0.out b1)
  obtain ⟨b, o, c, rfl, hb, hlc, hcm, hcell⟩ := hst
  have Hcell := Lib.hid hcell
  clear hcell HS HT HE B0 K0 b1
  by_cases h5 : ws.length = 5
  · have h5i : ((ws.length : Int) != 5) = false := by rw [h5]; rfl
    have hc4 : 4 ≤ c := by omega
    have h54 : 4 < ws.length := by omega
    have hsp := Hyes.out h5
    obtain ⟨y0, y1, y2, y3, y4, hy⟩ := l5w h5
    subst hy
    have HN := Lib.hid (readNums_any (.slice (some ⟨b, o, none⟩) 4 c) [y0, y1, y2, y3] (by show 0 < 4; omega) (by show 4 ≤ 100; omega) (fun x hx => Hsh.out x (by simp at hx ⊢; rcases hx with h | h | h | h <;> simp [h])) w1 ⟨b, o, c, rfl, hb, hc4, hcm, fun j x hx => Hcell.out j x (by
      match j, hx with
      | 0, hx => exact hx
      | 1, hx => exact hx
      | 2, hx => exact hx
      | 3, hx => exact hx
      | j + 4, hx => simp at hx)⟩ HT1.out HE1.out)
    have q4 := Hcell.out 4 y4 rfl
    have hR0 := Hrb.out
    rw [← hsp] at hR0
    have HR0 := Lib.hid hR0
    have HT2 := Lib.hid (fun h => Htx.out y0 y1 y2 y3 y4 hsp.symm h)
    unfold strV at q4
    have Q4 := Lib.hid q4
    clear h5 hsp hR0 q4 Hyes Hno Hrb Htx Hsh Hcell
    go_wp2_with fail
    refine HN.out.mono ?_
    rintro e w2 ⟨hif, b2⟩
    have K2 := Lib.hid (K1.out.on rfl b2)
    have B2 := Lib.hid (b_then B1.out b2)
    have T2 := Lib.hid (HT1.out.below b2)
    have Q2 := Lib.hid (cell_on Q4.out rfl b2)
    clear b2 h5i HN K1 B1 HT1 HE1 Q4
    cases hok : okAll [y0, y1, y2, y3]
    · rw [hok] at hif
      obtain rfl := hif
      have hR : R = none := by rw [HR0.out, rbW5, hok]; rfl
      have HR := Lib.hid hR
      (have k0 := K2.out.cell 0; have k1 := K2.out.cell 1; have k2 := K2.out.cell 2; have k3 := K2.out.cell 3; have k4 := K2.out.cell 4; simp at k0 k1 k2 k3 k4; have f0 := K2.out.frozenT 0; have f1 := K2.out.frozenT 1; have f2 := K2.out.frozenT 2; have f3 := K2.out.frozenT 3; have f4 := K2.out.frozenT 4)
      clear hok hR
      go_wp2
      refine bodyPost_ret (ret5 Tryd.results33 rfl (((((K2.out.set 0 _).set 1 _).set 2 _).set 3 _).set 4 _)) rfl (rdb_none HR.out ?_)
      (refine Below.setCell (p := ⟨w.heap.size, 4, none⟩) ?_ (Nat.le_refl _) _; refine Below.setCell (p := ⟨w.heap.size, 3, none⟩) ?_ (Nat.le_refl _) _; refine Below.setCell (p := ⟨w.heap.size, 2, none⟩) ?_ (Nat.le_refl _) _; refine Below.setCell (p := ⟨w.heap.size, 1, none⟩) ?_ (Nat.le_refl _) _; refine Below.setCell (p := ⟨w.heap.size, 0, none⟩) ?_ (Nat.le_refl _) _)
      exact B2.out
    · rw [hok] at hif
      obtain ⟨v2, he, hfl⟩ := hif
      subst he
      have ho := fun x hx => rdN_some (List.all_eq_true.1 (show okAll [y0, y1, y2, y3] = true from hok) x hx)
      have hx : rdV [y0, y1, y2, y3] = [rnV (rdN y0), rnV (rdN y1), rnV (rdN y2), rnV (rdN y3)] := rfl
      have u0 := (ho y0 (by simp)).1; have u1 := (ho y1 (by simp)).1; have u2 := (ho y2 (by simp)).1; have u3 := (ho y3 (by simp)).1
      have hR : R = if ((isCr y4 || isOp y4) && okB (mkB (rdV [y0, y1, y2, y3]) (isCr y4))) = true then some (mkB (rdV [y0, y1, y2, y3]) (isCr y4)) else none := by rw [HR0.out, rbW5, hok, if_pos rfl]
      rw [← HT2.out hok] at hR
      rw [hx] at hR hfl
      have hm : mkB [rnV (rdN y0), rnV (rdN y1), rnV (rdN y2), rnV (rdN y3)] (isCr y4) = ⟨rnV (rdN y0), rnV (rdN y1), rnV (rdN y2), rnV (rdN y3), isCr y4⟩ := rfl
      rw [hm] at hR
      generalize rnV (rdN y0) = x0 at *
      generalize rnV (rdN y1) = x1 at *
      generalize rnV (rdN y2) = x2 at *
      generalize rnV (rdN y3) = x3 at *
      have hcr : ((bsOf y4).toList == [99, 114, 111, 115, 115, 101, 100]) = isCr y4 := by
        have h := beq_bs y4 ⟨#[99, 114, 111, 115, 115, 101, 100]⟩
        rw [crL] at h
        exact h
      generalize isCr y4 = xb at *
      have Hcr := Lib.hid hcr
      have q2 := Q2.out
      generalize bsOf y4 = E at *
      have HRR := Lib.hid hR
      obtain ⟨b2, o2, c2, rfl, hb2, hlc2, hcm2, hcell2⟩ := hfl
      have a0 : w2.cell? ⟨b2, o2, none⟩ = some (.float .f32 x0) := hcell2 0 x0 rfl
      have a1 := hcell2 1 x1 rfl; have a2 := hcell2 2 x2 rfl; have a3 := hcell2 3 x3 rfl
      have hl4 : ([x0, x1, x2, x3] : List Nat).length = 4 := rfl
      rw [hl4] at hlc2 ⊢
      have LV := Lib.hid (fun W h => implBeltText_any ⟨x0, x1, x2, x3, xb⟩ ⟨u0, u1, u2, u3⟩ W h)
      have C2 : w2.cell? ⟨b2, o2, none⟩ = some (.float .f32 x0) ∧ w2.cell? ⟨b2, o2 + 1, none⟩ = some (.float .f32 x1) ∧ w2.cell? ⟨b2, o2 + 2, none⟩ = some (.float .f32 x2) ∧ w2.cell? ⟨b2, o2 + 3, none⟩ = some (.float .f32 x3) ∧ w2.cell? ⟨b, o + 4, none⟩ = some (.string E) ∧ Hid (Blk w2 w.heap.size #[.float .f32 0, .float .f32 0, .float .f32 0, .float .f32 0, .bool false] 44) ∧ Hid (Below w.heap.size w w2) := ⟨a0, a1, a2, a3, q2, K2, B2⟩
      clear hok hR hcell2 hx hl4 ho u0 u1 u2 u3 hm HT2 HR0 hcr
      go_wp2
      go_region_held3 (fun w' => w'.cell? ⟨b2, o2, none⟩ = some (.float .f32 x0) ∧ w'.cell? ⟨b2, o2 + 1, none⟩ = some (.float .f32 x1) ∧ w'.cell? ⟨b2, o2 + 2, none⟩ = some (.float .f32 x2) ∧ w'.cell? ⟨b2, o2 + 3, none⟩ = some (.float .f32 x3) ∧ w'.cell? ⟨b, o + 4, none⟩ = some (.string E) ∧ Hid (Blk w' w.heap.size #[.float .f32 0, .float .f32 0, .float .f32 0, .float .f32 0, .bool false] 44) ∧ Hid (Below w.heap.size w w'))
        (first
          | exact rgM_step C2 (b_drew (Below.refl _ _))
          | exact rgM_step C2 (b_alloc (Below.refl _ _) _)
          | exact rgM_step C2 (b_drew (b_alloc (Below.refl _ _) _))
          | assumption)
        (first | fail)
      clear a0 a1 a2 a3 q2 C2
      go_wp2_with fail
      rw [Hcr.out]
      refine (LV.out _ (T2.out.below (b_drew (b_alloc (Below.refl _ _) _)))).mono ?_
      rintro e w3 ⟨rfl, b3⟩
      have b23 : Below w2.heap.size w2 w3 := b_then (b_drew (b_alloc (Below.refl _ _) _)) b3
      have N3 := Lib.hid (Blk.on (Blk.new w2 #[.float .f32 x0, .float .f32 x1, .float .f32 x2, .float .f32 x3, .bool xb] 44) rfl (b_then (b_drew (Below.refl _ _)) b3))
      have K3 := Lib.hid (K2.out.on rfl b23)
      have B3 := Lib.hid (b_then B2.out b23)
      clear b3 b23 K2 B2 LV
      have K2 := K3
      have B2 := B3
      clear K3 B3
      (have k0 := K2.out.cell 0; have k1 := K2.out.cell 1; have k2 := K2.out.cell 2; have k3 := K2.out.cell 3; have k4 := K2.out.cell 4; simp at k0 k1 k2 k3 k4; have f0 := K2.out.frozenT 0; have f1 := K2.out.frozenT 1; have f2 := K2.out.frozenT 2; have f3 := K2.out.frozenT 3; have f4 := K2.out.frozenT 4)
      have n0 := N3.out.cell 0; have n1 := N3.out.cell 1; have n2 := N3.out.cell 2; have n3 := N3.out.cell 3; have n4 := N3.out.cell 4
      simp at n0 n1 n2 n3 n4
      have hbq := Hbq.out (textB ⟨x0, x1, x2, x3, xb⟩)
      generalize bsOf (textB ⟨x0, x1, x2, x3, xb⟩) = TX at *
      have hR := HRR.out
      rw [← hbq] at hR
      clear HRR Hbq
      cases hv : (TX.toList == t.toList)
      · rw [hv] at hR
        have HR : Hid (R = none) := Lib.hid hR
        clear hR hbq
        go_wp2
        refine bodyPost_ret (ret5 Tryd.results33 rfl (((((K2.out.set 0 _).set 1 _).set 2 _).set 3 _).set 4 _)) rfl (rdb_none HR.out ?_)
        (refine Below.setCell (p := ⟨w.heap.size, 4, none⟩) ?_ (Nat.le_refl _) _; refine Below.setCell (p := ⟨w.heap.size, 3, none⟩) ?_ (Nat.le_refl _) _; refine Below.setCell (p := ⟨w.heap.size, 2, none⟩) ?_ (Nat.le_refl _) _; refine Below.setCell (p := ⟨w.heap.size, 1, none⟩) ?_ (Nat.le_refl _) _; refine Below.setCell (p := ⟨w.heap.size, 0, none⟩) ?_ (Nat.le_refl _) _)
        exact B2.out
      · rw [hv] at hR
        have HR : Hid (R = some ⟨x0, x1, x2, x3, xb⟩) := Lib.hid hR
        clear hR hbq
        go_wp2
        refine bodyPost_ret (ret5 Tryd.results33 rfl (((((K2.out.set 0 _).set 1 _).set 2 _).set 3 _).set 4 _)) rfl (rdb_some (T := ⟨x0, x1, x2, x3, xb⟩) HR.out ?_)
        (refine Below.setCell (p := ⟨w.heap.size, 4, none⟩) ?_ (Nat.le_refl _) _; refine Below.setCell (p := ⟨w.heap.size, 3, none⟩) ?_ (Nat.le_refl _) _; refine Below.setCell (p := ⟨w.heap.size, 2, none⟩) ?_ (Nat.le_refl _) _; refine Below.setCell (p := ⟨w.heap.size, 1, none⟩) ?_ (Nat.le_refl _) _; refine Below.setCell (p := ⟨w.heap.size, 0, none⟩) ?_ (Nat.le_refl _) _)
        exact B2.out
  · have h5i : ((ws.length : Int) != 5) = true := by
      have : ¬ ((ws.length : Int) = 5) := by omega
      simpa using this
    have hR : R = none := Hno.out h5
    have HR := Lib.hid hR
    have K2 := K1
    have B2 := B1
    (have k0 := K2.out.cell 0; have k1 := K2.out.cell 1; have k2 := K2.out.cell 2; have k3 := K2.out.cell 3; have k4 := K2.out.cell 4; simp at k0 k1 k2 k3 k4; have f0 := K2.out.frozenT 0; have f1 := K2.out.frozenT 1; have f2 := K2.out.frozenT 2; have f3 := K2.out.frozenT 3; have f4 := K2.out.frozenT 4)
    clear hR h5 K1 B1 Hyes Hno Hrb Htx Hsh Hcell
    go_wp2
    refine bodyPost_ret (ret5 Tryd.results33 rfl (((((K2.out.set 0 _).set 1 _).set 2 _).set 3 _).set 4 _)) rfl (rdb_none HR.out ?_)
    (refine Below.setCell (p := ⟨w.heap.size, 4, none⟩) ?_ (Nat.le_refl _) _; refine Below.setCell (p := ⟨w.heap.size, 3, none⟩) ?_ (Nat.le_refl _) _; refine Below.setCell (p := ⟨w.heap.size, 2, none⟩) ?_ (Nat.le_refl _) _; refine Below.setCell (p := ⟨w.heap.size, 1, none⟩) ?_ (Nat.le_refl _) _; refine Below.setCell (p := ⟨w.heap.size, 0, none⟩) ?_ (Nat.le_refl _) _)
    exact B2.out
end Go.Proofs.YtkkcihgnpephiaaDoor
