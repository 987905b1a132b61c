/-
  A train read from its text: the model's.
-/
import Derived.Test.YtkkcihgnpephiaaDoorTrf
import Derived.Test.YtkkcihgnpephiaaDoorOwn2
namespace Go.Proofs.YtkkcihgnpephiaaDoor
open Go.RowKit Go.ChangeShapes Go.WideShapes Go.Deep
attribute [local go_sem ↓] Go.wp_at_zero Go.wp_at_succ
set_option linter.unusedVariables false
set_option linter.unusedSimpArgs false
set_option maxRecDepth 100000
theorem rdr_none2 {w W : World} {r : Option (List Px)} (h : r = none) (b : Below w.heap.size w W) : RdR r w (.returned (.tuple #[.slice (some ⟨W.heap.size, 0, none⟩) 0 0, .int .i64 5])) (W.alloc (.cells #[] 93)) := by
  subst h
  exact ⟨_, rfl, own_less' (own_empty W W.heap.size 93 3 (Nat.le_refl _)) b.size, b_alloc b _⟩
theorem rpS_len {x : List UInt8} (h : ¬ (spl 58 x).length = 2) : rpS x = none := by
  unfold rpS
  split
  · rename_i y z hs; rw [hs] at h; exact absurd rfl h
  · rfl
theorem rpS_len2 {x y z : List UInt8} (hs : spl 58 x = [y, z]) (h : ¬ (spl 47 y).length = 2) : rpS x = none := by
  unfold rpS
  rw [hs]
  simp only
  split
  · rename_i a b hs2; rw [hs2] at h; exact absurd rfl h
  · rfl
theorem rpS_four {x y z a b : List UInt8} (hs : spl 58 x = [y, z]) (hs2 : spl 47 y = [a, b]) : rpS x = (match nmb a, nmb b, rdN z with | some m, some n, some l => if teethB (m : Int) && teethB (n : Int) then some ⟨m, n, l⟩ else none | _, _, _ => none) := by
  unfold rpS
  rw [hs]
  simp only
  rw [hs2]
  rfl
theorem psS_take {ws : List (List UInt8)} {k : Nat} {x : List UInt8} {p : Px} (hx : ws[k]? = some x) (hv : rpS x = some p) : cellsR (psS (ws.take (k + 1))) = cellsR (psS (ws.take k)) ++ p.cells := by
  unfold cellsR psS
  rw [List.take_add_one, hx]
  simp [hv]
theorem okWS_take {ws : List (List UInt8)} {k : Nat} {x : List UInt8} {p : Px} (h : okWS (ws.take k) = true) (hx : ws[k]? = some x) (hv : rpS x = some p) : okWS (ws.take (k + 1)) = true := by
  unfold okWS at *
  rw [List.take_add_one, hx, List.all_append, h]
  simp [hv]
theorem rtrW_bad {ws : List (List UInt8)} {k : Nat} {x : List UInt8} (hx : ws[k]? = some x) (h : rpS x = none) : rtrW ws = none := by
  unfold rtrW
  have : okWS ws = false := by
    unfold okWS
    rw [List.all_eq_false]
    exact ⟨x, List.mem_of_getElem? hx, by rw [h]; decide⟩
  rw [this]; rfl
theorem psS_wf {ws : List (List UInt8)} (h : okWS ws = true) : ∀ p ∈ psS ws, p.wf := fun p hp => by
  have h2 := words_fwd ws h
  rw [← h2.2] at hp
  exact psI_wf h2.1 p hp
theorem join_lowerR (b : UInt8) : ∀ l : List (List UInt8), (∀ x ∈ l, 1 ≤ x.length) → 2 * l.length ≤ (Lib.join l [b]).length + 1
  | [], _ => by simp
  | [x], h => by rw [Lib.join_one]; have := h x (by simp); simp; omega
  | x :: y :: r, h => by
    rw [join_two]
    have h1 := h x (by simp)
    have h2 := join_lowerR b (y :: r) (fun z hz => h z (List.mem_cons_of_mem _ hz))
    simp only [List.length_append, List.length_cons] at h2 ⊢
    omega
theorem okWS_len {l : List UInt8} (h : okWS (spl 32 l) = true) : 2 * (spl 32 l).length ≤ l.length + 1 := by
  have := join_lowerR 32 (spl 32 l) (fun x hx => by
    unfold okWS at h
    have h1 := List.all_eq_true.1 h x hx
    cases x with
    | nil => revert h1; decide
    | cons c r => simp)
  rwa [spl_join] at this
theorem l2w {α : Type} {l : List α} (h : l.length = 2) : ∃ a b, l = [a, b] := by
  match l, h with
  | [a, b], _ => exact ⟨a, b, rfl⟩
theorem spl_short {b : UInt8} {l x : List UInt8} (h : x ∈ spl b l) : x.length ≤ l.length := by
  have e := spl_join b l
  have key : ∀ ws : List (List UInt8), x ∈ ws → x.length ≤ (Lib.join ws [b]).length := by
    intro ws
    induction ws with
    | nil => intro h; simp at h
    | cons y r ih =>
      intro h
      cases r with
      | nil => simp at h; subst h; rw [Lib.join_one]; exact Nat.le_refl _
      | cons z r =>
        rw [join_two]
        rcases List.mem_cons.1 h with rfl | h
        · simp
        · have := ih h; simp; omega
  have := key _ h
  rwa [e] at this
/-- The words lie where they lay. -/
def Wd (w : World) (b o : Nat) (ws : List (List UInt8)) : Prop := ∀ j x, ws[j]? = some x → w.cell? ⟨b, o + j, none⟩ = some (strV x)
theorem Wd.on {w w' : World} {b o : Nat} {ws : List (List UInt8)} (h : Wd w b o ws) (hb : Below w.heap.size w w') : Wd w' b o ws := fun j x hx => cell_on (h j x hx) rfl hb
theorem Wd.grown {w w' : World} {b o : Nat} {ws : List (List UInt8)} {row : Option Nat} (h : Wd w b o ws) (hg : w.grownBy w' row) (hr : ∀ k, row = some k → k ≠ b) : Wd w' b o ws := fun j x hx => by
  have h1 := h j x hx
  exact (World.cell?_of_block (w := w) (a := ⟨b, o + j, none⟩) (hg.block b (cell_lt h1) (fun e => hr b e.symm rfl))).trans h1
set_option maxHeartbeats 4000000 in
theorem specReadTrain_any (t : ByteArray) (hs : t.size ≤ 1048576) (w : World) : Calls Tryd.prog 25 #[.string t] w (RdR (rtrS t.data.toList) w) := by
  obtain ⟨i0, hi, hy0, hy1, hy2⟩ := info_parts infoPair
  have hys : (Value.agg #[.int .i16 0, .int .i16 0, .float .f32 0]).cells.size = 3 := rfl
  have Hi := Lib.hid hi
  have Hy0 := Lib.hid hy0; have Hy1 := Lib.hid hy1; have Hy2 := Lib.hid hy2; have Hys := Lib.hid hys
  have HS := Lib.hid (l01Split_any t 32 hs (w.alloc (.cells #[] 93)))
  have hln : (spl 32 t.data.toList).length ≤ 1048577 := Nat.le_trans (spl_le 32 t.data.toList) (by rw [← Lib.size_eq]; omega)
  have HW := Lib.hid (show rtrW (spl 32 t.data.toList) = rtrS t.data.toList from rfl)
  have HL := Lib.hid (show okWS (spl 32 t.data.toList) = true → (spl 32 t.data.toList).length ≤ 1048576 from fun h => by have h1 := okWS_len h; have h2 := Lib.size_eq t; omega)
  have Hsh : Hid (∀ x ∈ spl 32 t.data.toList, x.length ≤ 1048576) := fun x hx => Nat.le_trans (spl_short hx) (by rw [← Lib.size_eq]; exact hs)
  have hne := List.length_pos_iff.2 (spl_ne 32 t.data.toList)
  have O0 := Lib.hid (own_empty w w.heap.size 93 3 (Nat.le_refl _))
  have K0 := Lib.hid (Blk.new w #[] 93)
  have B0 := Lib.hid (b_alloc (Below.refl _ w) (.cells #[] 93))
  clear hi hy0 hy1 hy2 hys
  generalize rtrS t.data.toList = R at *
  generalize spl 32 t.data.toList = ws at *
  obtain ⟨n, hn⟩ : ∃ n, ws.length = n := ⟨_, rfl⟩
  rw [hn] at hln HL hne
  have Hn := Lib.hid hn
  go_enter Tryd.func25, Tryd.ntmps25
  go_wp2_with fail
  refine HS.out.mono ?_
  rintro e w1 ⟨v1, rfl, hst, b1⟩
  have O1 := Lib.hid (own_below O0.out b1)
  have K1 := Lib.hid (K0.out.on rfl b1)
  have B1 := Lib.hid (b_then B0.out b1)
  obtain ⟨b, o, c, rfl, hb, hlc, hcm, hcell⟩ := hst
  have W1 : Hid (Wd w1 b o ws) := Lib.hid hcell
  have hbne : w.heap.size ≠ b := fun e => by
    obtain ⟨x, hx⟩ : ∃ x, ws[0]? = some x := ⟨_, List.getElem?_eq_getElem (by rw [hn]; exact hne)⟩
    have h1 := hcell 0 x hx
    rw [← e, K1.out.cell] at h1
    simp at h1
  have Hne := Lib.hid hbne
  rw [hn] at hlc ⊢
  clear hcell HS b1 hn hbne O0 B0 K0 K1
  go_wp2_with fail
  go_loopw [4, 6] (fun v vi wr => ∃ (k : Nat), vi = .int .i64 k ∧ k ≤ n ∧ Hid (okWS (ws.take k) = true) ∧ Hid (wr.ownsRow w.heap.size 93 3 v k (cellsR (psS (ws.take k)))) ∧ Hid (Below w.heap.size w wr) ∧ Hid (Wd wr b o ws) ∧ Hid (∀ kk, v.ownBlock = some kk → kk ≠ b) ∧ Hid (b < wr.heap.size)) (fun _ vi _ => n - (intOf vi).toNat)
  case atStart => exact ⟨0, rfl, by omega, rfl, O1, B1, W1, fun kk h => by cases h; exact Hne.out, hb⟩
  case round =>
    obtain ⟨k, rfl, hkn, hA, hO, hB, hWd, hAp, hbl⟩ := hrel
    have hba := own_base hO.out
    have Hba := Lib.hid hba
    clear hba
    by_cases hlt : k < n
    · obtain ⟨x, hx⟩ : ∃ x, ws[k]? = some x := ⟨_, List.getElem?_eq_getElem (by rw [Hn.out]; exact hlt)⟩
      have c0 := hWd.out k x hx
      unfold strV at c0
      have hxl := Hsh.out x (List.mem_of_getElem? hx)
      have L1 := Lib.hid (l01Split_any (bsOf x) 58 (by rw [bsOf_size]; exact hxl) wr)
      rw [bsOf_data] at L1
      have HbadF : Hid (rpS x = none → R = none) := Lib.hid (fun h => by rw [← HW.out]; exact rtrW_bad hx h)
      have Hx := Lib.hid hx
      clear hx
      go_wp2_with fail
      refine L1.out.mono ?_
      rintro e w2 ⟨v2, rfl, hst2, b2⟩
      obtain ⟨b2', o2, c2, rfl, hb2, hlc2, hcm2, hcell2⟩ := hst2
      have B2 := Lib.hid (b_then hB.out b2); have X2 := Lib.hid b2
      clear b2 c0 L1
      by_cases hl2 : (spl 58 x).length = 2
      · obtain ⟨y, z, hyz⟩ := l2w hl2
        have cy : w2.cell? ⟨b2', o2, none⟩ = some (strV y) := hcell2 0 y (by rw [hyz]; rfl)
        have cz : w2.cell? ⟨b2', o2 + 1, none⟩ = some (strV z) := hcell2 1 z (by rw [hyz]; rfl)
        unfold strV at cy cz
        rw [hl2] at hlc2 ⊢
        have hyl : y.length ≤ 1048576 := Nat.le_trans (spl_short (b := 58) (l := x) (by rw [hyz]; simp)) hxl
        have L2 := Lib.hid (l01Split_any (bsOf y) 47 (by rw [bsOf_size]; exact hyl) w2)
        rw [bsOf_data] at L2
        have Hyz := Lib.hid hyz
        have Cz := Lib.hid cz
        clear hcell2 hl2 hyz hyl
        go_wp2_with fail
        refine L2.out.mono ?_
        rintro e w3 ⟨v3, rfl, hst3, b3⟩
        obtain ⟨b3', o3, c3, rfl, hb3, hlc3, hcm3, hcell3⟩ := hst3
        have B3 := Lib.hid (b_then B2.out b3); have X3 := Lib.hid (b_then X2.out b3)
        have cz3 := cell_on Cz.out rfl b3
        clear b3 cy cz L2 B2 X2 Cz
        by_cases hl3 : (spl 47 y).length = 2
        · obtain ⟨a, bb, hab⟩ := l2w hl3
          have ca : w3.cell? ⟨b3', o3, none⟩ = some (strV a) := hcell3 0 a (by rw [hab]; rfl)
          have cb : w3.cell? ⟨b3', o3 + 1, none⟩ = some (strV bb) := hcell3 1 bb (by rw [hab]; rfl)
          unfold strV at ca cb
          rw [hl3] at hlc3 ⊢
          have HF := Lib.hid (rpS_four Hyz.out hab)
          have NA := Lib.hid (number_any (bsOf a) w3)
          have NB := Lib.hid (number_any (bsOf bb) w3)
          have NZ := Lib.hid (l01Read_any (bsOf z) w3)
          rw [bsOf_data] at NA NB NZ
          clear hcell3 hl3 hab
          generalize nmb a = VA at *
          generalize nmb bb = VB at *
          generalize rdN z = VZ at *
          go_wp2_with fail
          refine NA.out.mono ?_
          rintro e w4 ⟨rfl, rfl⟩
          go_wp2_with fail
          refine NB.out.mono ?_
          rintro e w4 ⟨rfl, rfl⟩
          go_wp2_with fail
          refine NZ.out.mono ?_
          rintro e w4 ⟨⟨fz, rfl, hfz⟩, rfl⟩
          have B9 := B3
          cases VA with
          | none =>
            have HR := Lib.hid (HbadF.out HF.out)
            (go_wp2; go_ret2; exact rdr_none2 HR.out B9.out)
          | some m =>
            cases VB with
            | none =>
              have HR := Lib.hid (HbadF.out HF.out)
              (go_wp2; go_ret2; exact rdr_none2 HR.out B9.out)
            | some m2 =>
              cases VZ with
              | none =>
                have HR := Lib.hid (HbadF.out HF.out)
                (go_wp2; go_ret2; exact rdr_none2 HR.out B9.out)
              | some l =>
                obtain rfl := hfz l rfl
                have em : nmV (some m) = m := rfl
                have em2 : nmV (some m2) = m2 := rfl
                rw [em, em2]
                have hF : rpS x = if teethB (m : Int) && teethB (m2 : Int) then some ⟨m, m2, fz⟩ else none := HF.out
                have wm := fun h => teeth_nat (m := (m : Int)) h
                have wm2 := fun h => teeth_nat (m := (m2 : Int)) h
                obtain ⟨tA, htA⟩ : ∃ tA, teethB (m : Int) = tA := ⟨_, rfl⟩
                obtain ⟨tB, htB⟩ : ∃ tB, teethB (m2 : Int) = tB := ⟨_, rfl⟩
                have TA := Lib.hid (show ∀ W, Calls Tryd.prog 71 #[.int .i64 m] W (fun e w' => e = .returned (.bool tA) ∧ W = w') from fun W => by have h := l01Teeth_any (m : Int) W; rw [htA] at h; exact h)
                have TB := Lib.hid (show ∀ W, Calls Tryd.prog 71 #[.int .i64 m2] W (fun e w' => e = .returned (.bool tB) ∧ W = w') from fun W => by have h := l01Teeth_any (m2 : Int) W; rw [htB] at h; exact h)
                rw [htA, htB] at hF
                rw [htA] at wm
                rw [htB] at wm2
                clear htA htB HF NA NB NZ hfz em em2 ca cb
                cases tA
                · have HR := Lib.hid (HbadF.out hF)
                  clear hF wm wm2
                  go_wp2_with fail
                  refine (TA.out _).mono ?_
                  rintro e w5 ⟨rfl, rfl⟩
                  (go_wp2; go_ret2; exact rdr_none2 HR.out B9.out)
                · cases tB
                  · have HR := Lib.hid (HbadF.out hF)
                    clear hF wm wm2
                    go_wp2_with fail
                    refine (TA.out _).mono ?_
                    rintro e w5 ⟨rfl, rfl⟩
                    go_wp2_with fail
                    refine (TB.out _).mono ?_
                    rintro e w5 ⟨rfl, rfl⟩
                    (go_wp2; go_ret2; exact rdr_none2 HR.out B9.out)
                  · have hF2 : rpS x = some ⟨m, m2, fz⟩ := hF
                    obtain ⟨q1, hq1, hq2⟩ := wm rfl
                    obtain ⟨q3, hq3, hq4⟩ := wm2 rfl
                    have wa : IntKind.i16.wrap (m : Int) = m := IntWalk.i16_in _ (by omega)
                    have wb : IntKind.i16.wrap (m2 : Int) = m2 := IntWalk.i16_in _ (by omega)
                    have Htk := Lib.hid (psS_take Hx.out hF2)
                    have HA2 := Lib.hid (okWS_take hA.out Hx.out hF2)
                    have O3 := Lib.hid (own_below hO.out X3.out)
                    have D3 := Lib.hid (hWd.out.on X3.out)
                    have S3 := Lib.hid X3.out.size
                    clear hF hF2 wm wm2 hq1 hq2 hq3 hq4 cz3
                    go_wp2_with fail
                    refine (TA.out _).mono ?_
                    rintro e w5 ⟨rfl, rfl⟩
                    go_wp2_with fail
                    refine (TB.out _).mono ?_
                    rintro e w5 ⟨rfl, rfl⟩
                    go_wp2_with (at_builtin; refine wpList_append_own2 _ rfl (.tmp 83) (.tmp 90) 34 rfl w.heap.size 93 i0 _ 3 8 Tryd.underlying34 Hi.out Hy0.out Hy1.out Hy2.out Hys.out (by omega) _ k _ rfl (O3.out.alloc _) _ 1 _ [.int .i16 (m : Int), .int .i16 (m2 : Int), .float .f32 fz] rfl rfl (World.news_of_block (cs := #[_, _, _]) (heap_alloc_at (by simp))) (by intro u hu; simp at hu; rcases hu with rfl | rfl | rfl <;> rfl) (by unfold maxLen; omega) (by omega) (by have := B3.out.size; simp at this ⊢; omega) ?_; intro v9 w9 hown9 hgrow9 hf9)
                    have O9 : Hid (w9.ownsRow w.heap.size 93 3 v9 (k + 1) (cellsR (psS (ws.take (k + 1))))) := by
                      rw [Htk.out]
                      exact hown9
                    have B10 : Hid (Below w.heap.size w w9) := (b_alloc B3.out _).grown hgrow9 (by have := B3.out.size; simp at this ⊢; omega) (fun k h => (Hba.out k h).1)
                    have D9 : Hid (Wd w9 b o ws) := (D3.out.on (b_alloc (Below.refl _ _) _)).grown hgrow9 hAp.out
                    have A9 : Hid (∀ kk, v9.ownBlock = some kk → kk ≠ b) := fun kk h => by
                      rcases hf9 kk h with h1 | h1
                      · exact hAp.out kk h1
                      · have h2 := hbl.out
                        have h3 := S3.out
                        simp at h1
                        omega
                    have E9 : Hid (b < w9.heap.size) := by
                      have h1 := hgrow9.size
                      have h2 := hbl.out
                      have h3 := S3.out
                      simp at h1
                      exact Lib.hid (by omega)
                    exact ⟨⟨k + 1, by go_num, by omega, HA2, O9, B10, D9, A9, E9⟩, by simp [intOf]; omega⟩
        · have hl3i : ((((spl 47 y).length : Nat) : Int) != 2) = true := by
            have : ¬ (((spl 47 y).length : Nat) : Int) = 2 := by omega
            simpa using this
          have HR := Lib.hid (HbadF.out (rpS_len2 Hyz.out hl3))
          have B9 := B3
          clear hcell3 hl3
          (go_wp2; go_ret2; exact rdr_none2 HR.out B9.out)
      · have hl2i : ((((spl 58 x).length : Nat) : Int) != 2) = true := by
          have : ¬ (((spl 58 x).length : Nat) : Int) = 2 := by omega
          simpa using this
        have HR := Lib.hid (HbadF.out (rpS_len hl2))
        have B9 := B2
        clear hcell2 hl2
        (go_wp2; go_ret2; exact rdr_none2 HR.out B9.out)
    · obtain rfl : k = n := by omega
      have e1 : ws.take k = ws := List.take_of_length_le (by rw [Hn.out]; exact Nat.le_refl _)
      rw [e1] at hA hO
      have hR := HW.out
      unfold rtrW at hR
      rw [hA.out, Bool.true_and] at hR
      have hwf := psS_wf hA.out
      have hk1 := HL.out hA.out
      generalize psS ws = ps at *
      obtain ⟨A, cc, rfl, hl2, hI, _⟩ := pl_of_row hO.out
      have L := Lib.hid (l01Ok_any A k cc ps wr hl2 hk1 hI hwf)
      have HR1 := Lib.hid hR
      have Hl2 := Lib.hid hl2
      clear e1 hR hl2 hI hwf
      go_wp2_with fail
      refine L.out.mono ?_
      rintro e w4 ⟨rfl, rfl⟩
      have hR := HR1.out
      cases hvv : okTr ps
      · have HR : Hid (R = none) := Lib.hid (by rw [← hR, hvv]; rfl)
        have B9 := hB
        clear hR HR1 hvv
        (go_wp2; go_ret2; exact rdr_none2 HR.out B9.out)
      · have HR : Hid (R = some ps) := Lib.hid (by rw [← hR, hvv]; rfl)
        clear hR HR1 hvv
        go_wp2
        go_ret2
        refine ⟨_, by rw [HR.out]; rfl, ?_, hB.out⟩
        rw [HR.out]
        show World.ownsRow _ w.heap.size 93 3 _ ps.length (cellsR ps)
        rw [Hl2.out]
        exact hO.out
end Go.Proofs.YtkkcihgnpephiaaDoor
