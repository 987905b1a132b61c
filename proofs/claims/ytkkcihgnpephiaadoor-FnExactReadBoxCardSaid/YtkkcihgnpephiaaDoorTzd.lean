/-
  A box read from its text: the model's; the law.
-/
import Derived.Test.YtkkcihgnpephiaaDoorTzc
namespace Go.Proofs.YtkkcihgnpephiaaDoor
open Go.RowKit Go.ChangeShapes Go.WideShapes Go.Deep
attribute [local go_sem ↓] Go.wp_at_zero Go.wp_at_succ
set_option linter.unusedVariables false
set_option linter.unusedSimpArgs false
set_option maxRecDepth 100000
theorem rdz_none2 {w W : World} {r : Option (List Int)} (h : r = none) (b : Below w.heap.size w W) : RdZ r w (.returned (.tuple #[.slice (some ⟨W.heap.size, 0, none⟩) 0 0, .int .i64 5])) (W.alloc (.cells #[] 91)) := by
  subst h
  exact ⟨_, rfl, own_less (own_empty W W.heap.size 91 1 (Nat.le_refl _)) b.size, b_alloc b _⟩
theorem join_lower (b : UInt8) : ∀ l : List (List UInt8), (∀ x ∈ l, 1 ≤ x.length) → 2 * l.length ≤ (Lib.join l [b]).length + 1
  | [], _ => by simp
  | [x], h => by rw [Lib.join_one]; have := h x (by simp); simp; omega
  | x :: y :: r, h => by
    rw [join_two]
    have h1 := h x (by simp)
    have h2 := join_lower b (y :: r) (fun z hz => h z (List.mem_cons_of_mem _ hz))
    simp only [List.length_append, List.length_cons] at h2 ⊢
    omega
theorem okW_len {l : List UInt8} (h : okW (spl 32 l) = true) : 2 * (spl 32 l).length ≤ l.length + 1 := by
  have := join_lower 32 (spl 32 l) (fun x hx => by
    unfold okW at h
    obtain ⟨m, _, _, hm⟩ := tooth200_dec (List.all_eq_true.1 h x hx)
    rw [← hm]
    exact List.length_pos_iff.2 (dec_ne m))
  rwa [spl_join] at this
theorem zsOf_take {ws : List (List UInt8)} {k : Nat} {x : List UInt8} {m : Nat} (hx : ws[k]? = some x) (hv : nmb x = some m) : i16s (zsOf (ws.take (k + 1))) = i16s (zsOf (ws.take k)) ++ [.int .i16 (m : Int)] := by
  unfold i16s zsOf
  rw [List.take_add_one, hx]
  simp [hv, nmV]
theorem okW_take {ws : List (List UInt8)} {k : Nat} {x : List UInt8} (h : okW (ws.take k) = true) (hx : ws[k]? = some x) (hv : tooth200 x = true) : okW (ws.take (k + 1)) = true := by
  unfold okW at *
  rw [List.take_add_one, hx, List.all_append, h]
  simp [hv]
theorem zsOf_16 {ws : List (List UInt8)} (h : okW ws = true) : ∀ z ∈ zsOf ws, I16 z := fun z hz => by
  unfold zsOf at hz
  obtain ⟨x, hx, rfl⟩ := List.mem_map.1 hz
  unfold okW at h
  obtain ⟨m, hm, hn, _⟩ := tooth200_dec (List.all_eq_true.1 h x hx)
  rw [hn]
  unfold I16 nmV
  simp
  omega
set_option maxHeartbeats 4000000 in
theorem specReadBox_any (t : ByteArray) (hs : t.size ≤ 1048576) (w : World) : Calls Tryd.prog 45 #[.string t] w (RdZ (rzS t.data.toList) w) := by
  obtain ⟨i0, hi, hy0, hy1, hy2⟩ := info_parts infoI16
  have hys : (Value.int .i16 0).cells.size = 1 := rfl
  have Hi := Lib.hid hi
  have Hy0 := Lib.hid hy0; have Hy1 := Lib.hid hy1; have Hy2 := Lib.hid hy2; have Hys := Lib.hid hys
  have HS := Lib.hid (l01Split_any t 32 hs w)
  have hln : (spl 32 t.data.toList).length ≤ 1048577 := Nat.le_trans (spl_le 32 t.data.toList) (by rw [← Lib.size_eq]; omega)
  have HW := Lib.hid (show rzW (spl 32 t.data.toList) = rzS t.data.toList from rfl)
  have HL := Lib.hid (show okW (spl 32 t.data.toList) = true → (spl 32 t.data.toList).length ≤ 1048576 from fun h => by have h1 := okW_len h; have h2 := Lib.size_eq t; omega)
  clear hi hy0 hy1 hy2 hys
  generalize rzS t.data.toList = R at *
  generalize spl 32 t.data.toList = ws at *
  obtain ⟨n, hn⟩ : ∃ n, ws.length = n := ⟨_, rfl⟩
  rw [hn] at hln HL
  have Hn := Lib.hid hn
  go_enter Tryd.func45, Tryd.ntmps45
  go_wp2_with fail
  refine HS.out.mono ?_
  rintro e w1 ⟨v1, rfl, hst, b1⟩
  have B1 := Lib.hid b1
  obtain ⟨b, o, c, rfl, hb, hlc, hcm, hcell⟩ := hst
  have Hcell := Lib.hid hcell
  rw [hn] at hlc ⊢
  have O0 := Lib.hid (own_empty w1 w1.heap.size 91 1 (Nat.le_refl _))
  have B0 := Lib.hid (b_alloc (Below.refl _ w1) (.cells #[] 91))
  clear hcell HS b1 hn
  go_wp2_with fail
  go_loopw [5, 6] (fun v vi wr => ∃ (k : Nat), vi = .int .i64 k ∧ k ≤ n ∧ Hid (okW (ws.take k) = true) ∧ Hid (wr.ownsRow w1.heap.size 91 1 v k (i16s (zsOf (ws.take k)))) ∧ Hid (Below w1.heap.size w1 wr)) (fun _ vi _ => n - (intOf vi).toNat)
  case atStart => exact ⟨0, rfl, by omega, rfl, O0, B0⟩
  case round =>
    obtain ⟨k, rfl, hkn, hA, hO, hB⟩ := hrel
    have hba := own_base hO.out
    have Hba := Lib.hid hba
    clear hba
    by_cases hlt : k < n
    · obtain ⟨x, hx⟩ : ∃ x, ws[k]? = some x := ⟨_, List.getElem?_eq_getElem (by rw [Hn.out]; exact hlt)⟩
      have c0 := cell_on (Hcell.out k x hx) rfl hB.out
      unfold strV at c0
      have hL := number_any (bsOf x) wr
      rw [bsOf_data] at hL
      cases hv : nmb x with
      | none =>
        have HR : Hid (R = none) := Lib.hid (by rw [← HW.out]; exact rzW_bad hx (by unfold tooth200; rw [hv]))
        rw [hv] at hL
        have L := Lib.hid hL
        clear hx hv hL
        go_wp2_with fail
        refine L.out.mono ?_
        rintro e w2 ⟨rfl, rfl⟩
        have B2 := Lib.hid (b_then B1.out hB.out)
        clear c0
        go_wp2
        go_ret2
        exact rdz_none2 HR.out B2.out
      | some m =>
        rw [hv] at hL
        have hL : Calls Tryd.prog 70 #[.string (bsOf x)] wr (fun e w' => e = .returned (.tuple #[.int .i64 m, .bool true]) ∧ wr = w') := hL
        have L := Lib.hid hL
        by_cases h200 : m ≤ 200
        · have Htk := Lib.hid (zsOf_take hx hv)
          have HA2 := Lib.hid (okW_take hA.out hx (by unfold tooth200; rw [hv]; exact decide_eq_true h200))
          have wv : IntKind.i16.wrap (m : Int) = m := IntWalk.i16_in _ (by omega)
          clear hx hv hL
          go_wp2_with fail
          refine L.out.mono ?_
          rintro e w2 ⟨rfl, rfl⟩
          clear c0
          go_wp2_with (at_builtin; refine wpList_append_own _ rfl (.tmp 33) (.tmp 36) 59 rfl w1.heap.size 91 i0 _ 1 2 Tryd.underlying59 Hi.out Hy0.out Hy1.out Hy2.out Hys.out (by omega) _ k _ rfl (hO.out.alloc _) _ 1 _ [_] rfl rfl (World.news_of_block (cs := #[_]) (heap_alloc_new _ _)) (by intro u hu; simp at hu; subst hu; rfl) (by unfold maxLen; omega) (by omega) (by have := hB.out.size; simp; omega) ?_; intro v9 w9 hown9 hgrow9 hif9)
          have O9 : Hid (w9.ownsRow w1.heap.size 91 1 v9 (k + 1) (i16s (zsOf (ws.take (k + 1))))) := by
            rw [Htk.out]
            exact hown9
          have B9 : Hid (Below w1.heap.size w1 w9) := (b_alloc hB.out _).grown hgrow9 (by have := hB.out.size; simp; omega) (fun k h => (Hba.out k h).1)
          exact ⟨⟨k + 1, by go_num, by omega, HA2, O9, B9⟩, by simp [intOf]; omega⟩
        · have HR : Hid (R = none) := Lib.hid (by rw [← HW.out]; exact rzW_bad hx (by unfold tooth200; rw [hv]; exact decide_eq_false h200))
          have h2i : 200 < (m : Int) := by omega
          clear hx hv hL h200
          go_wp2_with fail
          refine L.out.mono ?_
          rintro e w2 ⟨rfl, rfl⟩
          have B2 := Lib.hid (b_then B1.out hB.out)
          clear c0
          go_wp2
          go_ret2
          exact rdz_none2 HR.out B2.out
    · obtain rfl : k = n := by omega
      have e1 : ws.take k = ws := List.take_of_length_le (by rw [Hn.out]; exact Nat.le_refl _)
      rw [e1] at hA hO
      have hR := HW.out
      unfold rzW at hR
      rw [hA.out, Bool.true_and] at hR
      have h16 := zsOf_16 hA.out
      have hk1 := HL.out hA.out
      generalize zsOf ws = zs at *
      obtain ⟨A, cc, rfl, hl2, hI, _⟩ := ii_of_row hO.out
      have L := Lib.hid (specOk_any A k cc zs wr hl2 hk1 h16 hI)
      have HR1 := Lib.hid hR
      have Hl2 := Lib.hid hl2
      clear e1 hR h16 hl2 hI
      go_wp2_with fail
      refine L.out.mono ?_
      rintro e w4 ⟨rfl, b4⟩
      have B4 := Lib.hid (b_then B1.out (b_then hB.out b4))
      have O4 := Lib.hid (own_less (own_below hO.out b4) B1.out.size)
      clear b4
      have hR := HR1.out
      cases hvv : okZ zs
      · have HR : Hid (R = none) := Lib.hid (by rw [← hR, hvv]; rfl)
        clear hR HR1 hvv
        go_wp2
        go_ret2
        exact rdz_none2 HR.out B4.out
      · have HR : Hid (R = some zs) := Lib.hid (by rw [← hR, hvv]; rfl)
        clear hR HR1 hvv
        go_wp2
        go_ret2
        refine ⟨_, by rw [HR.out]; rfl, ?_, B4.out⟩
        rw [HR.out]
        show w4.ownsRow w.heap.size 91 1 _ zs.length (i16s zs)
        rw [Hl2.out]
        exact O4.out
theorem zL_len (l : List UInt8) : (zL (rzS l)).length ≤ 24 := by
  unfold rzS rzW zL
  split
  · rename_i h
    rw [Bool.and_eq_true] at h
    exact (okZ_at h.2).1.2
  · simp
set_option maxHeartbeats 4000000 in
theorem walk_FnExactReadBox (t : ByteArray) (wt : t.size ≤ maxLen) (w : World) (hT : TbAt w) (hE : TeAt w) (hM : TmAt w) :
    Calls Tryd.prog 12 #[.string t] w fun e w' => e = .returned (.bool true) ∧ Below w.heap.size w w' := by
  have HT := Lib.hid hT; have HE := Lib.hid hE; have HM := Lib.hid hM
  clear hT hE hM
  unfold maxLen at wt
  by_cases hz : 1048576 < (t.size : Int)
  · go_enter Tryd.func12, Tryd.ntmps12
    go_wp2
    go_ret
    exact ⟨rfl, Below.refl _ _⟩
  · have hs : t.size ≤ 1048576 := by omega
    have L1 := Lib.hid (specReadBox_any t hs w)
    have L2 := Lib.hid (fun W h1 h2 h3 => implReadBox_any t hs W h1 h2 h3)
    have hn24 := zL_len t.data.toList
    unfold RdZ at L1 L2
    generalize zL (rzS t.data.toList) = zs at *
    generalize zK (rzS t.data.toList) = K at *
    obtain ⟨n, hn⟩ : ∃ n, zs.length = n := ⟨_, rfl⟩
    rw [hn] at L1 L2 hn24
    have Hn := Lib.hid hn
    have kb : n ≤ 1048576 := by omega
    have hKK : (K != K) = false := by simp
    clear hs hn
    go_enter Tryd.func12, Tryd.ntmps12
    go_wp2_with fail
    refine L1.out.mono ?_
    rintro e w1 ⟨v1, rfl, ho1, b1⟩
    obtain ⟨A1, c1, rfl, _, hI1, hg1⟩ := ii_of_row ho1
    have I1 := Lib.hid hI1; have G1 := Lib.hid hg1; have D1 := Lib.hid b1
    clear ho1 b1 hI1 hg1
    go_wp2_with fail
    refine (L2.out _ (HT.out.below D1.out) (HE.out.below D1.out) (HM.out.below D1.out)).mono ?_
    rintro e w2 ⟨v2, rfl, ho2, b2⟩
    obtain ⟨A2, c2, rfl, _, hI2, hg2⟩ := ii_of_row ho2
    have G2b : Hid (∀ a, A2 = some a → w1.heap.size ≤ a.block) := Lib.hid (fun a h => (own_base ho2 a.block (by rw [h]; rfl)).1)
    have I2 := Lib.hid hI2; have G2 := Lib.hid hg2; have B2 := Lib.hid b2
    have D2 := Lib.hid (b_then D1.out b2)
    have J2 := Lib.hid (I1.out.keep b2)
    clear ho2 b2 hI2 hg2
    go_wp2_with fail
    refine (eqInts_same _ _ _ _ _ zs _ Hn.out kb I2.out J2.out).mono ?_
    rintro e w3 ⟨rfl, b3⟩
    have B3 := Lib.hid b3
    have D3 := Lib.hid (b_then D2.out b3)
    have J3 := Lib.hid (J2.out.keep b3)
    clear b3
    go_wp2_with fail
    refine (markInts_any A2 n c2 1 w3 kb (by omega) (fun h0 => by
      obtain ⟨g, e, _, hg, ht⟩ := G2.out h0
      exact ⟨g, e, there_of_block ht (B3.out.block g hg)⟩)).mono ?_
    rintro e w4 ⟨rfl, m4, mk⟩
    have M4 := Lib.hid m4; have MK := Lib.hid mk
    have D4 : Hid (Below w.heap.size w w4) := D3.out.trans (m4.2.2 _ (fun a h => Nat.le_trans D1.out.size (G2b.out a h)))
    have J4 : Hid (Ii w4 w4.heap.size A1 zs) := fun h0 => (J3.out.mb m4 (fun a a' ha ha' => by
      rw [Hn.out] at h0
      obtain ⟨g, e, hg, _⟩ := G2.out h0
      obtain ⟨g1, e1, _, hg1, _⟩ := G1.out h0
      rw [e] at ha'; rw [e1] at ha
      cases ha; cases ha'
      show g ≠ g1
      omega)) h0
    clear m4 mk
    go_wp2_with fail
    refine (heldInts_any A2 n c2 1 w4 kb (by omega) MK.out).mono ?_
    rintro e w5 ⟨rfl, rfl⟩
    have hlt0 : ¬ (1 + (n : Int) < 0) := by omega
    go_wp2_with fail
    refine (L2.out _ (HT.out.below D4.out) (HE.out.below D4.out) (HM.out.below D4.out)).mono ?_
    rintro e w6 ⟨v6, rfl, ho6, b6⟩
    obtain ⟨A6, c6, rfl, _, hI6, _⟩ := ii_of_row ho6
    have I6 := Lib.hid hI6; have B6 := Lib.hid b6
    have D6 := Lib.hid (b_then D4.out b6)
    have J6 := Lib.hid (J4.out.keep b6)
    clear ho6 b6 hI6
    go_wp2_with fail
    refine (eqInts_same _ _ _ _ _ zs _ Hn.out kb I6.out J6.out).mono ?_
    rintro e w7 ⟨rfl, b7⟩
    have B7 := Lib.hid (b_then B6.out b7)
    have D7 := Lib.hid (b_then D6.out b7)
    clear b7
    go_wp2_with fail
    refine (heldInts_any A2 n c2 1 w7 kb (by omega) (fun h0 => by
      obtain ⟨b, e, hc⟩ := MK.out h0
      exact ⟨b, e, fun i hi => cell_on (hc i hi) rfl B7.out⟩)).mono ?_
    rintro e w8 ⟨rfl, rfl⟩
    go_wp2
    go_ret
    exact ⟨rfl, D7.out⟩
end Go.Proofs.YtkkcihgnpephiaaDoor
