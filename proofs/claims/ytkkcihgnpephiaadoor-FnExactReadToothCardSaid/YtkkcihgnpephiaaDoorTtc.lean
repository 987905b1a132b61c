/-
  A tooth read from its text: the program's.
-/
import Derived.Test.YtkkcihgnpephiaaDoorTtb
import Derived.Laws.Cover3
namespace Go.Proofs.YtkkcihgnpephiaaDoor
open Go.RowKit Go.ChangeShapes Go.WideShapes Go.Deep
attribute [local go_sem ↓] Go.wp_at_zero Go.wp_at_succ
set_option linter.unusedVariables false
set_option linter.unusedSimpArgs false
set_option maxRecDepth 100000
theorem rgV_step {b2 o2 x0 x1 x2 q : Nat} {w W w' : World} (h : W.cell? ⟨b2, o2, none⟩ = some (.float .f32 x0) ∧ W.cell? ⟨b2, o2 + 1, none⟩ = some (.float .f32 x1) ∧ W.cell? ⟨b2, o2 + 1 + 1, none⟩ = some (.float .f32 x2) ∧ Hid (Blk W q #[.float .f32 0, .float .f32 0, .float .f32 0, .int .i8 0] 72) ∧ Hid (Below w.heap.size w W)) (b' : Below W.heap.size W w') : w'.cell? ⟨b2, o2, none⟩ = some (.float .f32 x0) ∧ w'.cell? ⟨b2, o2 + 1, none⟩ = some (.float .f32 x1) ∧ w'.cell? ⟨b2, o2 + 1 + 1, none⟩ = some (.float .f32 x2) ∧ Hid (Blk w' q #[.float .f32 0, .float .f32 0, .float .f32 0, .int .i8 0] 72) ∧ Hid (Below w.heap.size w w') :=
  ⟨cell_on h.1 rfl b', cell_on h.2.1 rfl b', cell_on h.2.2.1 rfl b', Lib.hid (h.2.2.2.1.out.on rfl b'), Lib.hid (b_then h.2.2.2.2.out b')⟩
theorem l4w {α : Type} {l : List α} (h : l.length = 4) : ∃ a b c d, l = [a, b, c, d] := by
  match l, h with
  | [a, b, c, d], _ => exact ⟨a, b, c, d, rfl⟩
set_option maxHeartbeats 4000000 in
theorem implReadTooth_any (t : ByteArray) (hs : t.size ≤ 1048576) (w : World) (hT : TbAt w) (hE : TeAt w) (hM : TmAt w) : Calls Tryd.prog 53 #[.string t] w (RdT (rtS t.data.toList) w) := by
  have b0 := b_alloc (Below.refl _ w) (.cells #[.float .f32 0, .float .f32 0, .float .f32 0, .int .i8 0] 72)
  have HS := Lib.hid (splitN_any t 44 5 (by decide) (by decide) hs (w.alloc (.cells #[.float .f32 0, .float .f32 0, .float .f32 0, .int .i8 0] 72)) (hM.below b0))
  have K0 := Lib.hid (Blk.new w #[.float .f32 0, .float .f32 0, .float .f32 0, .int .i8 0] 72)
  have HT := Lib.hid (hT.below b0); have HE := Lib.hid (hE.below b0); have B0 := Lib.hid b0
  have hp := splitN_pos 44 5 t.data.toList (by decide)
  have Hsh : Hid (∀ x ∈ Lib.splitN t.data.toList [44] 5, x.length ≤ 1048576) := fun x hx => Nat.le_trans (splitN_short hx) (by rw [← Lib.size_eq]; exact hs)
  have Hyes := Lib.hid (rt_len t.data.toList)
  have Hno := Lib.hid (rt_nolen t.data.toList)
  have Hbad := Lib.hid (show ∀ a b c d, spl 44 t.data.toList = [a, b, c, d] → okAll [a, b, c] = false → rtS t.data.toList = none from fun a b c d h1 h2 => by unfold rtS; rw [h1, rtW4, h2]; rfl)
  have Htx := Lib.hid (fun a b c d => @rt_text t.data.toList a b c d)
  have Hbq := Lib.hid (fun l => beq_bs l t)
  obtain ⟨hp1, hp2⟩ := hp
  clear hT hE hM b0
  generalize rtS t.data.toList = R at *
  generalize t.data.toList = l at *
  generalize Lib.splitN l [44] 5 = ws at *
  go_enter Tryd.func53, Tryd.ntmps53
  go_wp2_with fail
  refine HS.out.mono ?_
  rintro e w1 ⟨v1, rfl, hst, b1⟩
  have K1 := Lib.hid (K0.out.on rfl b1)
  have HT1 := Lib.hid (HT.out.below b1); have HE1 := Lib.hid (HE.out.below b1); have B1 := Lib.hid (b_then B0.out b1)
  obtain ⟨b, o, c, rfl, hb, hlc, hcm, hcell⟩ := hst
  have Hcell := Lib.hid hcell
  clear hcell HS HT HE B0 K0 b1
  by_cases h5 : ws.length = 4
  · have h5i : ((ws.length : Int) != 4) = false := by rw [h5]; rfl
    have hc4 : 3 ≤ c := by omega
    have h54 : 3 < ws.length := by omega
    have hsp := Hyes.out h5
    obtain ⟨y0, y1, y2, y3, hy⟩ := l4w h5
    subst hy
    have HN := Lib.hid (readNums_any (.slice (some ⟨b, o, none⟩) 3 c) [y0, y1, y2] (by show 0 < 3; omega) (by show 3 ≤ 100; omega) (fun x hx => Hsh.out x (by simp at hx ⊢; rcases hx with h | h | h <;> simp [h])) w1 ⟨b, o, c, rfl, hb, hc4, hcm, fun j x hx => Hcell.out j x (by
      match j, hx with
      | 0, hx => exact hx
      | 1, hx => exact hx
      | 2, hx => exact hx
      | j + 3, hx => simp at hx)⟩ HT1.out HE1.out)
    have q4 := Hcell.out 3 y3 rfl
    have HT2 := Lib.hid (fun h => Htx.out y0 y1 y2 y3 hsp.symm h)
    have HB2 := Lib.hid (fun h => Hbad.out y0 y1 y2 y3 hsp.symm h)
    have HP := Lib.hid (fun W h => parseInt8_any (bsOf y3) (by rw [bsOf_size]; have := Hsh.out y3 (by simp); omega) W h)
    unfold strV at q4
    have Q4 := Lib.hid q4
    clear h5 hsp q4 Hyes Hno Htx Hbad Hsh Hcell
    go_wp2_with fail
    refine HN.out.mono ?_
    rintro e w2 ⟨hif, b2⟩
    have K2 := Lib.hid (K1.out.on rfl b2)
    have B2 := Lib.hid (b_then B1.out b2)
    have T2 := Lib.hid (HT1.out.below b2)
    have E2 := Lib.hid (HE1.out.below b2)
    have q2 := cell_on Q4.out rfl b2
    clear b2 h5i HN K1 B1 HT1 HE1 Q4
    cases hok : okAll [y0, y1, y2]
    · rw [hok] at hif
      obtain rfl := hif
      have HR := Lib.hid (HB2.out hok)
      clear hok HB2 HT2
      go_wp2_with fail
      refine (HP.out _ E2.out).mono ?_
      rintro e w3 ⟨hpe, b3⟩
      rw [bsOf_data] at hpe
      have K3 := Lib.hid (K2.out.on rfl b3)
      have B3 := Lib.hid (b_then B2.out b3)
      clear b3 K2 B2 q2
      have K2 := K3
      have B2 := B3
      clear K3 B3
      (have k0 := K2.out.cell 0; have k1 := K2.out.cell 1; have k2 := K2.out.cell 2; have k3 := K2.out.cell 3; simp at k0 k1 k2 k3; have f0 := K2.out.frozenT 0; have f1 := K2.out.frozenT 1; have f2 := K2.out.frozenT 2; have f3 := K2.out.frozenT 3)
      cases hv : i8V y3 with
      | none =>
        rw [hv] at hpe
        obtain ⟨x, N, rfl⟩ := hpe
        clear hv
        go_wp2
        refine bodyPost_ret (ret4t Tryd.results53 rfl ((((K2.out.set 0 _).set 1 _).set 2 _).set 3 _)) rfl (rdt_none HR.out ?_)
        (refine Below.setCell (p := ⟨w.heap.size, 3, none⟩) ?_ (Nat.le_refl _) _; refine Below.setCell (p := ⟨w.heap.size, 2, none⟩) ?_ (Nat.le_refl _) _; refine Below.setCell (p := ⟨w.heap.size, 1, none⟩) ?_ (Nat.le_refl _) _; refine Below.setCell (p := ⟨w.heap.size, 0, none⟩) ?_ (Nat.le_refl _) _)
        exact B2.out
      | some v =>
        rw [hv] at hpe
        obtain rfl := hpe
        clear hv
        go_wp2
        refine bodyPost_ret (ret4t Tryd.results53 rfl ((((K2.out.set 0 _).set 1 _).set 2 _).set 3 _)) rfl (rdt_none HR.out ?_)
        (refine Below.setCell (p := ⟨w.heap.size, 3, none⟩) ?_ (Nat.le_refl _) _; refine Below.setCell (p := ⟨w.heap.size, 2, none⟩) ?_ (Nat.le_refl _) _; refine Below.setCell (p := ⟨w.heap.size, 1, none⟩) ?_ (Nat.le_refl _) _; refine Below.setCell (p := ⟨w.heap.size, 0, none⟩) ?_ (Nat.le_refl _) _)
        exact B2.out
    · rw [hok] at hif
      obtain ⟨v2, he, hfl⟩ := hif
      subst he
      have ho := fun x hx => rdN_some (List.all_eq_true.1 (show okAll [y0, y1, y2] = true from hok) x hx)
      have hx : rdV [y0, y1, y2] = [rnV (rdN y0), rnV (rdN y1), rnV (rdN y2)] := rfl
      have u0 := (ho y0 (by simp)).1; have u1 := (ho y1 (by simp)).1; have u2 := (ho y2 (by simp)).1
      have hR := HT2.out hok
      have hm : ∀ v, mkT (rdV [y0, y1, y2]) v = ⟨rnV (rdN y0), rnV (rdN y1), rnV (rdN y2), v⟩ := fun v => rfl
      simp only [hm] at hR
      rw [hx] at hfl
      clear hx hm ho HT2 HB2
      generalize rnV (rdN y0) = x0 at *
      generalize rnV (rdN y1) = x1 at *
      generalize rnV (rdN y2) = x2 at *
      have HR0 := Lib.hid hR
      obtain ⟨b2, o2, c2, rfl, hb2, hlc2, hcm2, hcell2⟩ := hfl
      have hl4 : ([x0, x1, x2] : List Nat).length = 3 := rfl
      rw [hl4] at hlc2 ⊢
      have Hcell2 := Lib.hid hcell2
      clear hok hR hcell2 hl4
      go_wp2_with fail
      refine (HP.out _ E2.out).mono ?_
      rintro e w3 ⟨hpe, b3⟩
      rw [bsOf_data] at hpe
      have K3 := Lib.hid (K2.out.on rfl b3)
      have B3 := Lib.hid (b_then B2.out b3)
      have T3 := Lib.hid (T2.out.below b3)
      have a0 : w3.cell? ⟨b2, o2, none⟩ = some (.float .f32 x0) := cell_on (Hcell2.out 0 x0 rfl) rfl b3
      have a1 : w3.cell? ⟨b2, o2 + 1, none⟩ = some (.float .f32 x1) := cell_on (Hcell2.out 1 x1 rfl) rfl b3
      have a2 : w3.cell? ⟨b2, o2 + 1 + 1, none⟩ = some (.float .f32 x2) := cell_on (Hcell2.out 2 x2 rfl) rfl b3
      clear b3 K2 B2 T2 E2 Hcell2 HP q2
      have K2 := K3
      have B2 := B3
      clear K3 B3
      cases hv : i8V y3 with
      | none =>
        rw [hv] at hpe
        obtain ⟨x, N, rfl⟩ := hpe
        have hR := HR0.out
        rw [hv] at hR
        have HR : Hid (R = none) := Lib.hid hR
        clear hv hR HR0 a0 a1 a2
        (have k0 := K2.out.cell 0; have k1 := K2.out.cell 1; have k2 := K2.out.cell 2; have k3 := K2.out.cell 3; simp at k0 k1 k2 k3; have f0 := K2.out.frozenT 0; have f1 := K2.out.frozenT 1; have f2 := K2.out.frozenT 2; have f3 := K2.out.frozenT 3)
        go_wp2
        refine bodyPost_ret (ret4t Tryd.results53 rfl ((((K2.out.set 0 _).set 1 _).set 2 _).set 3 _)) rfl (rdt_none HR.out ?_)
        (refine Below.setCell (p := ⟨w.heap.size, 3, none⟩) ?_ (Nat.le_refl _) _; refine Below.setCell (p := ⟨w.heap.size, 2, none⟩) ?_ (Nat.le_refl _) _; refine Below.setCell (p := ⟨w.heap.size, 1, none⟩) ?_ (Nat.le_refl _) _; refine Below.setCell (p := ⟨w.heap.size, 0, none⟩) ?_ (Nat.le_refl _) _)
        exact B2.out
      | some v =>
        rw [hv] at hpe
        obtain rfl := hpe
        have hR := HR0.out
        rw [hv] at hR
        have HR1 : Hid (R = if textT ⟨x0, x1, x2, v⟩ = l then some ⟨x0, x1, x2, v⟩ else none) := Lib.hid hR
        have hvr := i8V_range hv
        have wv : IntKind.i8.wrap v = v := IntWalk.i8_in _ (by omega)
        have LV := Lib.hid (fun W h => implToothText_any ⟨x0, x1, x2, v⟩ ⟨u0, u1, u2⟩ W h)
        have C2 : w3.cell? ⟨b2, o2, none⟩ = some (.float .f32 x0) ∧ w3.cell? ⟨b2, o2 + 1, none⟩ = some (.float .f32 x1) ∧ w3.cell? ⟨b2, o2 + 1 + 1, none⟩ = some (.float .f32 x2) ∧ Hid (Blk w3 w.heap.size #[.float .f32 0, .float .f32 0, .float .f32 0, .int .i8 0] 72) ∧ Hid (Below w.heap.size w w3) := ⟨a0, a1, a2, K2, B2⟩
        have hAA : ∀ W : World, (Instr.arrayAt 67 (.slice (some ⟨b2, o2 + 1, none⟩) 2 (c2 - 1))).run Tryd.prog W = .ok (.pointer (some ⟨b2, o2 + 1, none⟩)) W := fun W => run_arrayAt _ 67 22 2 _ 2 _ Tryd.underlying67 (Nat.le_refl _)
        clear hv hR HR0 hvr u0 u1 u2
        go_wp2
        go_region_held3 (fun w' => w'.cell? ⟨b2, o2, none⟩ = some (.float .f32 x0) ∧ w'.cell? ⟨b2, o2 + 1, none⟩ = some (.float .f32 x1) ∧ w'.cell? ⟨b2, o2 + 1 + 1, none⟩ = some (.float .f32 x2) ∧ Hid (Blk w' w.heap.size #[.float .f32 0, .float .f32 0, .float .f32 0, .int .i8 0] 72) ∧ Hid (Below w.heap.size w w'))
          (first
            | exact rgV_step C2 (b_drew (Below.refl _ _))
            | exact rgV_step C2 (b_alloc (Below.refl _ _) _)
            | exact rgV_step C2 (b_drew (b_alloc (Below.refl _ _) _))
            | assumption)
          (first | fail)
        all_goals
          clear a0 a1 a2
          try clear C2
          go_wp2_with fail
          refine (LV.out _ (T3.out.below (by first | exact b_drew (b_alloc (Below.refl _ _) _) | exact b_alloc (b_drew (Below.refl _ _)) _ | exact b_alloc (Below.refl _ _) _))).mono ?_
          rintro e w4 ⟨rfl, b4⟩
          have b34 : Below w3.heap.size w3 w4 := b_then (by first | exact b_drew (b_alloc (Below.refl _ _) _) | exact b_alloc (b_drew (Below.refl _ _)) _ | exact b_alloc (Below.refl _ _) _) b4
          have N3 := Lib.hid (Blk.on (Blk.new w3 #[.float .f32 x0, .float .f32 x1, .float .f32 x2, .int .i8 v] 72) rfl (b_then (b_drew (Below.refl _ _)) b4))
          have K4 := Lib.hid (K2.out.on rfl b34)
          have B4 := Lib.hid (b_then B2.out b34)
          clear b4 b34 K2 B2 LV
          have K2 := K4
          have B2 := B4
          clear K4 B4
          (have k0 := K2.out.cell 0; have k1 := K2.out.cell 1; have k2 := K2.out.cell 2; have k3 := K2.out.cell 3; simp at k0 k1 k2 k3; have f0 := K2.out.frozenT 0; have f1 := K2.out.frozenT 1; have f2 := K2.out.frozenT 2; have f3 := K2.out.frozenT 3)
          have n0 := N3.out.cell 0; have n1 := N3.out.cell 1; have n2 := N3.out.cell 2; have n3 := N3.out.cell 3
          simp at n0 n1 n2 n3
          have hbq := Hbq.out (textT ⟨x0, x1, x2, v⟩)
          have hR := HR1.out
          generalize bsOf (textT ⟨x0, x1, x2, v⟩) = TX at *
          cases hvv : (TX.toList == t.toList)
          · rw [hvv] at hbq
            have HR : Hid (R = none) := Lib.hid (by rw [hR, if_neg (of_decide_eq_false hbq.symm)])
            clear hR hbq HR1 Hbq
            go_wp2
            refine bodyPost_ret (ret4t Tryd.results53 rfl ((((K2.out.set 0 _).set 1 _).set 2 _).set 3 _)) rfl (rdt_none HR.out ?_)
            (refine Below.setCell (p := ⟨w.heap.size, 3, none⟩) ?_ (Nat.le_refl _) _; refine Below.setCell (p := ⟨w.heap.size, 2, none⟩) ?_ (Nat.le_refl _) _; refine Below.setCell (p := ⟨w.heap.size, 1, none⟩) ?_ (Nat.le_refl _) _; refine Below.setCell (p := ⟨w.heap.size, 0, none⟩) ?_ (Nat.le_refl _) _)
            exact B2.out
          · rw [hvv] at hbq
            have HR : Hid (R = some ⟨x0, x1, x2, v⟩) := Lib.hid (by rw [hR, if_pos (of_decide_eq_true hbq.symm)])
            clear hR hbq HR1 Hbq
            go_wp2
            refine bodyPost_ret (ret4t Tryd.results53 rfl ((((K2.out.set 0 _).set 1 _).set 2 _).set 3 _)) rfl (rdt_some (T := ⟨x0, x1, x2, v⟩) HR.out ?_)
            (refine Below.setCell (p := ⟨w.heap.size, 3, none⟩) ?_ (Nat.le_refl _) _; refine Below.setCell (p := ⟨w.heap.size, 2, none⟩) ?_ (Nat.le_refl _) _; refine Below.setCell (p := ⟨w.heap.size, 1, none⟩) ?_ (Nat.le_refl _) _; refine Below.setCell (p := ⟨w.heap.size, 0, none⟩) ?_ (Nat.le_refl _) _)
            exact B2.out
  · have h5i : ((ws.length : Int) != 4) = true := by
      have : ¬ ((ws.length : Int) = 4) := by omega
      simpa using this
    have hR : R = none := Hno.out h5
    have HR := Lib.hid hR
    have K2 := K1
    have B2 := B1
    (have k0 := K2.out.cell 0; have k1 := K2.out.cell 1; have k2 := K2.out.cell 2; have k3 := K2.out.cell 3; simp at k0 k1 k2 k3; have f0 := K2.out.frozenT 0; have f1 := K2.out.frozenT 1; have f2 := K2.out.frozenT 2; have f3 := K2.out.frozenT 3)
    clear hR h5 K1 B1 Hyes Hno Htx Hbad Hsh Hcell
    go_wp2
    refine bodyPost_ret (ret4t Tryd.results53 rfl ((((K2.out.set 0 _).set 1 _).set 2 _).set 3 _)) rfl (rdt_none HR.out ?_)
    (refine Below.setCell (p := ⟨w.heap.size, 3, none⟩) ?_ (Nat.le_refl _) _; refine Below.setCell (p := ⟨w.heap.size, 2, none⟩) ?_ (Nat.le_refl _) _; refine Below.setCell (p := ⟨w.heap.size, 1, none⟩) ?_ (Nat.le_refl _) _; refine Below.setCell (p := ⟨w.heap.size, 0, none⟩) ?_ (Nat.le_refl _) _)
    exact B2.out
end Go.Proofs.YtkkcihgnpephiaaDoor
