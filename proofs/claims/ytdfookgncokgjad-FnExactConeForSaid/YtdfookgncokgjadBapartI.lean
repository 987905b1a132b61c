/-
  The distance that the program looks for.
-/
import Derived.Test.YtdfookgncokgjadBapart
namespace Go.Proofs.Ytdfookgncokgjad
open Go.RowKit Go.ChangeShapes Go.WideShapes Go.Deep
attribute [local go_sem ↓] Go.wp_at_zero Go.wp_at_succ
set_option linter.unusedVariables false
set_option linter.unusedSimpArgs false

theorem clApart_any (B : Bl) (x : Nat) (q : Nat) (w : World) (h : At w q B) : Calls Try.prog 63 #[.float .f32 x, .pointer (some ⟨q, 0, none⟩)] w fun e w' => ∃ r, e = .returned (.float .f32 r) ∧ CN r (lenC (bAp B x)) ∧ At w' q (bAp B x) ∧ Below q w w' := by
  have h2 := At.setAp h x
  have hb : Below q w (w.setCell ⟨q, 2, none⟩ (.float .f32 x)) := (Below.refl q w).setCell (p := ⟨q, 2, none⟩) (Nat.le_refl _) _
  obtain ⟨c0, c1, c2, c3, c4⟩ := h.cells
  obtain ⟨z2, hz⟩ : ∃ z2, w.frozen? ⟨q, 2, none⟩ = z2 := ⟨_, rfl⟩
  have hfz : w.frozen? ⟨q, 2, none⟩ = false := by unfold World.frozen?; rw [h]; simp
  clear hz
  have H2 := Lib.hid h2
  have Hb := Lib.hid hb
  obtain ⟨d0, d1, d2, d3, d4⟩ := h2.cells
  clear h2 hb h
  go_enter Try.func63, Try.ntmps63
  go_wp2_with (go_at_call 58; refine (implLen_any (bAp B x) _).mono ?_; rintro e w2 ⟨r, rfl, hr, b2⟩)
  go_ret
  exact ⟨r, rfl, hr, At.below H2.out b2, Hb.out.trans (b2.mono (Nat.le_of_lt H2.out.lt))⟩
set_option maxHeartbeats 2000000 in
theorem halvedA_any (B : Bl) (lo0 hi0 l : Nat) (q : Nat) (w : World) (h : At w q B) : Calls Try.prog 64 #[.float .f32 lo0, .float .f32 hi0, .float .f32 l, .func (.func 63) #[] #[.pointer (some ⟨q, 0, none⟩)]] w fun e w' => ∃ r, e = .returned (.float .f32 r) ∧ CN r (halveN (fun m => lenC (bAp B m)) (cn l) 40 (cn lo0, cn hi0)).1 ∧ Below q w w' := by
  obtain ⟨R, N, hR, hC⟩ := ops_fun Try.prog 22; have ra := hR .add rfl; have rs := hR .sub rfl; have rm := hR .mul rfl; have rq := hR .quo rfl; have HC := Lib.hid hC; clear hC hR
  have Hw := Lib.hid h
  clear h
  go_enter Try.func64, Try.ntmps64
  go_wp2
  go_loopw [0, 1, 9, 10] (fun u v m i wr => ∃ (k lo hi y : Nat), k ≤ 40 ∧ i = .int .i64 k ∧ u = .float .f32 lo ∧ v = .float .f32 hi ∧ Hid ((cn lo, cn hi) = halveN (fun m => lenC (bAp B m)) (cn l) k (cn lo0, cn hi0)) ∧ Below q w wr ∧ At wr q (bAp B y)) (fun _ _ _ i _ => 40 - (intOf i).toNat)
  case atStart => exact ⟨0, lo0, hi0, B.ap, by omega, rfl, rfl, rfl, by show _ = _; rfl, Below.refl _ _, Hw.out⟩
  case round =>
    obtain ⟨k, lo, hi, y, hk, rfl, rfl, rfl, hp, hb, ha⟩ := hrel
    by_cases hlt : k < 40
    · have Ha := Lib.hid ha
      clear ha
      have hmid : Hid (∀ w1 w2, cn (R .quo (R .add lo hi w1) 1073741824 w2) = f2 .quo (f2 .add (cn lo) (cn hi)) (cn 1073741824)) := fun w1 w2 => by rw [HC.out .quo rfl, HC.out .add rfl]
      go_wp2_with fail
      refine (clApart_any (bAp B y) _ q _ (At.same Ha.out (by rfl))).mono ?_
      rintro e w5 ⟨r, rfl, hr, a5, b5⟩
      have A5 := Lib.hid a5
      have B5 : Hid (Below q w w5) := (b_drewN hb _).trans b5
      have hst := Lib.hid (half_step (f := fun m => lenC (bAp B m)) hp (hmid.out _ _) (len_mid (B := B) (r0 := y) hr))
      clear hr a5 b5 hb hp
      go_wp2
      all_goals
        rename_i hcmp
        first
          | (have hc : Hid (oLe r l = true) := by (show _ = _; unfold oLe; simpa using hcmp))
          | (have hc : Hid (oLe r l = false) := by (show _ = _; unfold oLe; simpa using hcmp))
        clear hcmp
        go_roundw
        case rel =>
          refine ⟨k + 1, _, _, _, by omega, by go_num, rfl, rfl, ?_, B5.out, A5.out⟩
          show _ = _
          rw [hst.out, hc.out]
          rfl
        case measure => simp [intOf]; omega
    · obtain rfl : k = 40 := by omega
      go_wp2
      go_ret
      refine ⟨lo, rfl, ?_, hb⟩
      have hp2 : (cn lo, cn hi) = _ := hp
      unfold CN
      rw [← hp2]
set_option maxHeartbeats 2000000 in
theorem implApart_1 {B : Bl} {l : Nat} (hk : okB (bAp B (sumC B)) = false) (w : World) : Calls Try.prog 24 #[.agg #[.float .f32 B.a, .float .f32 B.b, .float .f32 B.ap, .float .f32 B.g, .bool B.x], .float .f32 l] w (RFC (cn 0) 1 w) := by
  obtain ⟨R, N, hR, hC⟩ := ops_fun Try.prog 22; have ra := hR .add rfl; have rs := hR .sub rfl; have rm := hR .mul rfl; have rq := hR .quo rfl; have HC := Lib.hid hC; clear hC hR
  obtain ⟨A0, hA0⟩ : ∃ A0, w.alloc (.cells #[.float .f32 B.a, .float .f32 B.b, .float .f32 B.ap, .float .f32 B.g, .bool B.x] 27) = A0 := ⟨_, rfl⟩; have a1 : Hid (At A0 w.heap.size B) := (by rw [← hA0]; exact At.new w B); have b1 : Hid (Below w.heap.size w A0) := (by rw [← hA0]; exact b_alloc (Below.refl _ _) _); have HA := Lib.hid hA0; clear hA0
  have Hk := Lib.hid hk
  clear hk
  go_enter Try.func24, Try.ntmps24
  go_wp2_with fail
  rw [HA.out]; have hsum := HC.out .add rfl B.a B.b A0; generalize R BinOp.add B.a B.b A0 = r0 at *; generalize N BinOp.add B.a B.b A0 = n0 at *
  have a2 : At ((A0.drewN n0).setCell ⟨w.heap.size, 2, none⟩ (.float .f32 r0)) w.heap.size (bAp B r0) := At.setAp (At.same a1.out (by rfl)) r0; have b2 : Below w.heap.size w ((A0.drewN n0).setCell ⟨w.heap.size, 2, none⟩ (.float .f32 r0)) := b_set (b_drewN b1.out n0) (Nat.le_refl _) _; generalize (A0.drewN n0).setCell ⟨w.heap.size, 2, none⟩ (.float .f32 r0) = W0 at *; have e : cn r0 = cn (sumC B) := (by rw [cn_sum]; exact hsum); have HK : Hid (okB (bAp B r0) = okB (bAp B (sumC B))) := okB_ap B e; have HL : Hid (lenC (bAp B r0) = lenC (bAp B (sumC B))) := lenC_ap B e; have Hs := Lib.hid hsum; clear hsum e; have A2 := Lib.hid a2; have B2 := Lib.hid b2; obtain ⟨c0, c1, c2, c3, c4⟩ := a2.cells; clear a2 b2
  refine (validBelt_any (bAp B r0) _).mono ?_
  rintro e w1 ⟨rfl, b1⟩
  have A3 := Lib.hid (At.on A2.out (by rfl) b1)
  have B3 : Hid (Below w.heap.size w w1) := b_then B2.out b1
  clear c0 c1 c2 c3 c4 b1
  obtain ⟨c0, c1, c2, c3, c4⟩ := A3.out.cells
  have hk := HK.out.trans Hk.out
  go_wp2
  go_ret2
  exact ⟨_, rfl, rfl, B3.out⟩
set_option maxHeartbeats 2000000 in
theorem implApart_2 {B : Bl} {l : Nat} (hk : okB (bAp B (sumC B)) = true) (hl : psB l = false) (w : World) : Calls Try.prog 24 #[.agg #[.float .f32 B.a, .float .f32 B.b, .float .f32 B.ap, .float .f32 B.g, .bool B.x], .float .f32 l] w (RFC (cn 0) 2 w) := by
  obtain ⟨R, N, hR, hC⟩ := ops_fun Try.prog 22; have ra := hR .add rfl; have rs := hR .sub rfl; have rm := hR .mul rfl; have rq := hR .quo rfl; have HC := Lib.hid hC; clear hC hR
  obtain ⟨A0, hA0⟩ : ∃ A0, w.alloc (.cells #[.float .f32 B.a, .float .f32 B.b, .float .f32 B.ap, .float .f32 B.g, .bool B.x] 27) = A0 := ⟨_, rfl⟩; have a1 : Hid (At A0 w.heap.size B) := (by rw [← hA0]; exact At.new w B); have b1 : Hid (Below w.heap.size w A0) := (by rw [← hA0]; exact b_alloc (Below.refl _ _) _); have HA := Lib.hid hA0; clear hA0
  have Hk := Lib.hid hk
  clear hk
  go_enter Try.func24, Try.ntmps24
  go_wp2_with fail
  rw [HA.out]; have hsum := HC.out .add rfl B.a B.b A0; generalize R BinOp.add B.a B.b A0 = r0 at *; generalize N BinOp.add B.a B.b A0 = n0 at *
  have a2 : At ((A0.drewN n0).setCell ⟨w.heap.size, 2, none⟩ (.float .f32 r0)) w.heap.size (bAp B r0) := At.setAp (At.same a1.out (by rfl)) r0; have b2 : Below w.heap.size w ((A0.drewN n0).setCell ⟨w.heap.size, 2, none⟩ (.float .f32 r0)) := b_set (b_drewN b1.out n0) (Nat.le_refl _) _; generalize (A0.drewN n0).setCell ⟨w.heap.size, 2, none⟩ (.float .f32 r0) = W0 at *; have e : cn r0 = cn (sumC B) := (by rw [cn_sum]; exact hsum); have HK : Hid (okB (bAp B r0) = okB (bAp B (sumC B))) := okB_ap B e; have HL : Hid (lenC (bAp B r0) = lenC (bAp B (sumC B))) := lenC_ap B e; have Hs := Lib.hid hsum; clear hsum e; have A2 := Lib.hid a2; have B2 := Lib.hid b2; obtain ⟨c0, c1, c2, c3, c4⟩ := a2.cells; clear a2 b2
  refine (validBelt_any (bAp B r0) _).mono ?_
  rintro e w1 ⟨rfl, b1⟩
  have A3 := Lib.hid (At.on A2.out (by rfl) b1)
  have B3 : Hid (Below w.heap.size w w1) := b_then B2.out b1
  clear c0 c1 c2 c3 c4 b1
  obtain ⟨c0, c1, c2, c3, c4⟩ := A3.out.cells
  have hk := HK.out.trans Hk.out
  go_wp2_with (go_at_call 62; refine (isPs_any _ _).mono ?_; rintro e w2 ⟨rfl, rfl⟩)
  go_ret2
  exact ⟨_, rfl, rfl, B3.out⟩
set_option maxHeartbeats 2000000 in
theorem implApart_3 {B : Bl} {l : Nat} (hk : okB (bAp B (sumC B)) = true) (hl : psB l = true) (hf : farB B l = true) (w : World) : Calls Try.prog 24 #[.agg #[.float .f32 B.a, .float .f32 B.b, .float .f32 B.ap, .float .f32 B.g, .bool B.x], .float .f32 l] w (RFC (cn 0) 6 w) := by
  obtain ⟨R, N, hR, hC⟩ := ops_fun Try.prog 22; have ra := hR .add rfl; have rs := hR .sub rfl; have rm := hR .mul rfl; have rq := hR .quo rfl; have HC := Lib.hid hC; clear hC hR
  obtain ⟨A0, hA0⟩ : ∃ A0, w.alloc (.cells #[.float .f32 B.a, .float .f32 B.b, .float .f32 B.ap, .float .f32 B.g, .bool B.x] 27) = A0 := ⟨_, rfl⟩; have a1 : Hid (At A0 w.heap.size B) := (by rw [← hA0]; exact At.new w B); have b1 : Hid (Below w.heap.size w A0) := (by rw [← hA0]; exact b_alloc (Below.refl _ _) _); have HA := Lib.hid hA0; clear hA0
  have Hk := Lib.hid hk; have Hf := Lib.hid hf
  clear hk hf
  go_enter Try.func24, Try.ntmps24
  go_wp2_with fail
  rw [HA.out]; have hsum := HC.out .add rfl B.a B.b A0; generalize R BinOp.add B.a B.b A0 = r0 at *; generalize N BinOp.add B.a B.b A0 = n0 at *
  have a2 : At ((A0.drewN n0).setCell ⟨w.heap.size, 2, none⟩ (.float .f32 r0)) w.heap.size (bAp B r0) := At.setAp (At.same a1.out (by rfl)) r0; have b2 : Below w.heap.size w ((A0.drewN n0).setCell ⟨w.heap.size, 2, none⟩ (.float .f32 r0)) := b_set (b_drewN b1.out n0) (Nat.le_refl _) _; generalize (A0.drewN n0).setCell ⟨w.heap.size, 2, none⟩ (.float .f32 r0) = W0 at *; have e : cn r0 = cn (sumC B) := (by rw [cn_sum]; exact hsum); have HK : Hid (okB (bAp B r0) = okB (bAp B (sumC B))) := okB_ap B e; have HL : Hid (lenC (bAp B r0) = lenC (bAp B (sumC B))) := lenC_ap B e; have Hs := Lib.hid hsum; clear hsum e; have A2 := Lib.hid a2; have B2 := Lib.hid b2; obtain ⟨c0, c1, c2, c3, c4⟩ := a2.cells; clear a2 b2
  refine (validBelt_any (bAp B r0) _).mono ?_
  rintro e w1 ⟨rfl, b1⟩
  have A3 := Lib.hid (At.on A2.out (by rfl) b1)
  have B3 : Hid (Below w.heap.size w w1) := b_then B2.out b1
  clear c0 c1 c2 c3 c4 b1
  obtain ⟨c0, c1, c2, c3, c4⟩ := A3.out.cells
  have hk := HK.out.trans Hk.out
  go_wp2_with (go_at_call 62; refine (isPs_any _ _).mono ?_; rintro e w2 ⟨rfl, rfl⟩)
  clear hk c0 c1 c2 c3 c4
  refine (clApart_any (bAp B r0) _ _ _ (At.same A3.out (by rfl))).mono ?_
  rintro e w3 ⟨r, rfl, hr, a3, b3⟩
  have A4 := Lib.hid a3
  have B4 : Hid (Below w.heap.size w w3) := B3.out.trans b3
  clear a3 b3
  go_wp2_with fail
  · go_ret2
    exact ⟨_, rfl, rfl, B4.out⟩
  · refine (clApart_any (bAp (bAp B r0) r0) _ _ _ (At.same A4.out (by rfl))).mono ?_
    rintro e w4 ⟨r', rfl, hr', a4, b4⟩
    have A5 := Lib.hid a4
    have B5 : Hid (Below w.heap.size w w4) := B4.out.trans b4
    clear a4 b4
    go_wp2_with fail
    · go_ret2
      exact ⟨_, rfl, rfl, B5.out⟩
    · exfalso
      have := Hf.out
      rw [far_no (B := B) HL.out hr (by assumption) hr' (by assumption)] at this
      cases this
set_option maxHeartbeats 2000000 in
theorem implApart_4 {B : Bl} {l : Nat} (hk : okB (bAp B (sumC B)) = true) (hl : psB l = true) (hf : farB B l = false) (w : World) : Calls Try.prog 24 #[.agg #[.float .f32 B.a, .float .f32 B.b, .float .f32 B.ap, .float .f32 B.g, .bool B.x], .float .f32 l] w (RFC (apartC B l) 0 w) := by
  obtain ⟨R, N, hR, hC⟩ := ops_fun Try.prog 22; have ra := hR .add rfl; have rs := hR .sub rfl; have rm := hR .mul rfl; have rq := hR .quo rfl; have HC := Lib.hid hC; clear hC hR
  obtain ⟨A0, hA0⟩ : ∃ A0, w.alloc (.cells #[.float .f32 B.a, .float .f32 B.b, .float .f32 B.ap, .float .f32 B.g, .bool B.x] 27) = A0 := ⟨_, rfl⟩; have a1 : Hid (At A0 w.heap.size B) := (by rw [← hA0]; exact At.new w B); have b1 : Hid (Below w.heap.size w A0) := (by rw [← hA0]; exact b_alloc (Below.refl _ _) _); have HA := Lib.hid hA0; clear hA0
  have Hk := Lib.hid hk; have Hf := Lib.hid hf
  clear hk hf
  go_enter Try.func24, Try.ntmps24
  go_wp2_with fail
  rw [HA.out]; have hsum := HC.out .add rfl B.a B.b A0; generalize R BinOp.add B.a B.b A0 = r0 at *; generalize N BinOp.add B.a B.b A0 = n0 at *
  have a2 : At ((A0.drewN n0).setCell ⟨w.heap.size, 2, none⟩ (.float .f32 r0)) w.heap.size (bAp B r0) := At.setAp (At.same a1.out (by rfl)) r0; have b2 : Below w.heap.size w ((A0.drewN n0).setCell ⟨w.heap.size, 2, none⟩ (.float .f32 r0)) := b_set (b_drewN b1.out n0) (Nat.le_refl _) _; generalize (A0.drewN n0).setCell ⟨w.heap.size, 2, none⟩ (.float .f32 r0) = W0 at *; have e : cn r0 = cn (sumC B) := (by rw [cn_sum]; exact hsum); have HK : Hid (okB (bAp B r0) = okB (bAp B (sumC B))) := okB_ap B e; have HL : Hid (lenC (bAp B r0) = lenC (bAp B (sumC B))) := lenC_ap B e; have Hs := Lib.hid hsum; clear hsum e; have A2 := Lib.hid a2; have B2 := Lib.hid b2; obtain ⟨c0, c1, c2, c3, c4⟩ := a2.cells; clear a2 b2
  refine (validBelt_any (bAp B r0) _).mono ?_
  rintro e w1 ⟨rfl, b1⟩
  have A3 := Lib.hid (At.on A2.out (by rfl) b1)
  have B3 : Hid (Below w.heap.size w w1) := b_then B2.out b1
  clear c0 c1 c2 c3 c4 b1
  obtain ⟨c0, c1, c2, c3, c4⟩ := A3.out.cells
  have hk := HK.out.trans Hk.out
  go_wp2_with (go_at_call 62; refine (isPs_any _ _).mono ?_; rintro e w2 ⟨rfl, rfl⟩)
  clear hk c0 c1 c2 c3 c4
  refine (clApart_any (bAp B r0) _ _ _ (At.same A3.out (by rfl))).mono ?_
  rintro e w3 ⟨r, rfl, hr, a3, b3⟩
  have A4 := Lib.hid a3
  have B4 : Hid (Below w.heap.size w w3) := B3.out.trans b3
  clear a3 b3
  go_wp2_with fail
  · exfalso
    have := Hf.out
    rw [far_l (B := B) HL.out hr (by assumption)] at this
    cases this
  · refine (clApart_any (bAp (bAp B r0) r0) _ _ _ (At.same A4.out (by rfl))).mono ?_
    rintro e w4 ⟨r', rfl, hr', a4, b4⟩
    have A5 := Lib.hid a4
    have B5 : Hid (Below w.heap.size w w4) := B4.out.trans b4
    clear a4 b4
    go_wp2_with fail
    · exfalso
      have := Hf.out
      rw [far_or (B := B) (r := r) (by assumption) hr' (by assumption)] at this
      cases this
    · refine (halvedA_any (bAp (bAp (bAp B r0) r0) 1199570944) r0 1199570944 l _ _ (At.same A5.out (by rfl))).mono ?_
      rintro e w5 ⟨z, rfl, hz, b5⟩
      go_wp2
      go_ret2
      refine ⟨z, rfl, ?_, B5.out.trans b5⟩
      unfold CN apartC at *
      rw [hz, Hs.out]
      rfl
theorem implApart_any (B : Bl) (l : Nat) (w : World) : Calls Try.prog 24 #[.agg #[.float .f32 B.a, .float .f32 B.b, .float .f32 B.ap, .float .f32 B.g, .bool B.x], .float .f32 l] w (RFC (zeroIf (codeA B l) (apartC B l)) (codeA B l) w) := by
  unfold codeA
  rcases Bool.eq_false_or_eq_true (okB (bAp B (sumC B))) with hk | hk
  · rcases Bool.eq_false_or_eq_true (psB l) with hl | hl
    · rcases Bool.eq_false_or_eq_true (farB B l) with hf | hf
      · simp only [hk, hl, hf, if_true]
        exact implApart_3 hk hl hf w
      · simp only [hk, hl, hf, if_true, if_false, Bool.false_eq_true]
        exact implApart_4 hk hl hf w
    · simp only [hk, hl, if_true, if_false, Bool.false_eq_true]
      exact implApart_2 hk hl w
  · simp only [hk, if_false, Bool.false_eq_true]
    exact implApart_1 hk w
end Go.Proofs.Ytdfookgncokgjad
