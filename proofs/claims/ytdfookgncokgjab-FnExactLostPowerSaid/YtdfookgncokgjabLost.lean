/-
  The power that is lost.
-/
import Derived.Test.YtdfookgncokgjabPowI
namespace Go.Proofs.Ytdfookgncokgjab
open Go.RowKit Go.ChangeShapes Go.WideShapes Go.Deep
attribute [local go_sem ↓] Go.wp_at_zero Go.wp_at_succ
set_option linter.unusedVariables false
set_option linter.unusedSimpArgs false
def lostC (ps : List Pr) (x y : Nat) : Nat := if codeDrive ps [x, y] = 0 then f2 .sub ((powC ps x y).getD 0 0) ((powC ps x y).getD ps.length 0) else cn 0
theorem at_of {fs cs : List Nat} {i : Nat} {f : Nat} (h : fs.map cn = cs) (hf : fs[i]? = some f) : cn f = cs.getD i 0 := by
  rw [← h]
  simp [List.getD, hf]
set_option maxRecDepth 100000 in
theorem specLostPower_any (A : Option Addr) (n c : Nat) (ps : List Pr) (x y : Nat) (w : World) (hl : ps.length = n) (hn : n ≤ 1048576) (hT : Tr w w.heap.size A ps) (hw : ∀ p ∈ ps, p.wf) :
    Calls Try.prog 33 #[.slice A n c, .float .f32 x, .float .f32 y] w (FCB (lostC ps x y) (codeDrive ps [x, y]) w) := by
  have Hl := Lib.hid hl; clear hl
  have HT := Lib.hid hT; clear hT
  have Hw := Lib.hid hw; clear hw
  have hde := l01Asked_any A n c ps x y w Hl.out hn HT.out Hw.out
  unfold lostC
  by_cases h0 : codeDrive ps [x, y] = 0
  · have hok := drive_ok h0
    rw [if_pos h0]
    rw [h0] at hde ⊢
    have Hok := Lib.hid hok; have Hde := Lib.hid hde
    clear hok hde h0
    go_enter Try.func33, Try.ntmps33
    go_wp2_with fail
    refine Hde.out.mono ?_
    rintro e w1 ⟨rfl, rfl⟩
    go_wp2_with fail
    refine (l01Powers_any _ _ _ ps _ _ _ Hl.out hn HT.out Hw.out Hok.out).mono ?_
    rintro e w2 ⟨v, fs, rfl, hr, hc, b2⟩
    have hfl : fs.length = n + 1 := by have := congrArg List.length hc; rw [List.length_map, powC_len] at this; have := Hl.out; omega
    rw [hfl] at hr
    obtain ⟨g, cap, rfl, hg, hglt⟩ := hr.form (by omega)
    have R1 := rowAt_of hr hglt
    obtain ⟨f, hf⟩ : ∃ f, fs[0]? = some f := ⟨_, List.getElem?_eq_getElem (by omega)⟩
    obtain ⟨f', hf'⟩ : ∃ f', fs[n]? = some f' := ⟨_, List.getElem?_eq_getElem (by omega)⟩
    have c0 := R1.2 0 f hf
    have c1 := R1.2 n f' hf'
    have E0 := Lib.hid (at_of hc hf)
    have E1 := Lib.hid (at_of hc hf')
    have B2 := Lib.hid b2
    clear hr hc b2 hfl hf hf' R1 hg hglt
    have z0 : (0 : Int) < (n : Int) + 1 := by omega
    have z1 : (0 : Int) ≤ (n : Int) := by omega
    have z2 : (n : Int) < (n : Int) + 1 := by omega
    obtain ⟨R, N, hR, hcR⟩ := f32_fun Try.prog .sub 31 rfl
    have HcR := Lib.hid hcR; clear hcR
    go_wp2_with fail
    go_region_law (fail)
    all_goals
      go_wp2
      go_ret2
      refine ⟨_, rfl, ?_, ?_⟩
      · rw [HcR.out, E0.out, E1.out, Hl.out]
      · first | exact below_drewN B2.out _ | exact below_drewN (below_drewN B2.out _) _
  · rw [if_neg h0]
    generalize codeDrive ps [x, y] = code at *
    have Hde := Lib.hid hde; clear hde
    go_enter Try.func33, Try.ntmps33
    go_wp2_with fail
    refine Hde.out.mono ?_
    rintro e w1 ⟨rfl, rfl⟩
    go_wp2
    go_ret2
    exact ⟨_, rfl, rfl, Below.refl _ _⟩
set_option maxRecDepth 100000 in
theorem implLostPower_any (A : Option Addr) (n c : Nat) (ps : List Pr) (x y : Nat) (w : World) (hl : ps.length = n) (hn : n ≤ 1048576) (hT : Tr w w.heap.size A ps) (hw : ∀ p ∈ ps, p.wf) :
    Calls Try.prog 34 #[.slice A n c, .float .f32 x, .float .f32 y] w (FCB (lostC ps x y) (codeDrive ps [x, y]) w) := by
  have hp := implPowersOf_any A n c ps x y w hl hn hT hw
  have Hl := Lib.hid hl; clear hl
  clear hT hw
  unfold powersC at hp
  unfold lostC
  by_cases h0 : codeDrive ps [x, y] = 0
  · rw [if_pos h0] at hp ⊢
    rw [h0] at hp ⊢
    have Hp := Lib.hid hp; clear hp h0
    go_enter Try.func34, Try.ntmps34
    go_wp2_with fail
    refine Hp.out.mono ?_
    rintro e w2 ⟨A2, n2, c2, fs, rfl, hl2, hc, hF, hO, hY, b2⟩
    have hfl : fs.length = n + 1 := by have := congrArg List.length hc; rw [List.length_map, powC_len] at this; have := Hl.out; omega
    obtain rfl : n2 = n + 1 := by omega
    obtain ⟨g, rfl, hg0, hglt, hcell⟩ := hF (by omega)
    obtain ⟨f, hf⟩ : ∃ f, fs[0]? = some f := ⟨_, List.getElem?_eq_getElem (by omega)⟩
    obtain ⟨f', hf'⟩ : ∃ f', fs[n]? = some f' := ⟨_, List.getElem?_eq_getElem (by omega)⟩
    have c0 := hcell 0 f hf
    have c1 := hcell n f' hf'
    have E0 := Lib.hid (at_of hc hf)
    have E1 := Lib.hid (at_of hc hf')
    have B2 := Lib.hid b2
    clear hl2 hc b2 hfl hf hf' hF hO hY hcell hg0 hglt
    have z0 : (0 : Int) < (n : Int) + 1 := by omega
    have z1 : (0 : Int) ≤ (n : Int) := by omega
    have z2 : (n : Int) < (n : Int) + 1 := by omega
    have z3 : (n : Int) + 1 - 1 = (n : Int) := by omega
    have z4 : IntKind.i64.wrap (n : Int) = (n : Int) := by rw [IntKind.wrap_i64] <;> omega
    obtain ⟨R, N, hR, hcR⟩ := f32_fun Try.prog .sub 31 rfl
    have HcR := Lib.hid hcR; clear hcR
    go_wp2_with fail
    go_region_law (fail)
    all_goals
      go_wp2
      go_ret2
      refine ⟨_, rfl, ?_, ?_⟩
      · rw [HcR.out, E0.out, E1.out, Hl.out]
      · first | exact below_drewN B2.out _ | exact below_drewN (below_drewN B2.out _) _
  · rw [if_neg h0] at hp ⊢
    generalize codeDrive ps [x, y] = code at *
    have Hp := Lib.hid hp; clear hp
    go_enter Try.func34, Try.ntmps34
    go_wp2_with fail
    refine Hp.out.mono ?_
    rintro e w2 ⟨A2, n2, c2, fs, rfl, hl2, hc, hF, hO, hY, b2⟩
    have B2 := Lib.hid b2
    clear hl2 hc hF hO hY b2
    go_wp2
    go_ret2
    exact ⟨_, rfl, rfl, B2.out⟩
set_option maxRecDepth 100000 in
theorem walk_FnExactLostPower (A : Option Addr) (n c : Nat) (ps : List Pr) (x : Nat) (wx : (Lit.float .f32 x).wf = true) (y : Nat) (wy : (Lit.float .f32 y).wf = true) (w : World) (h : PairsIn w A n c ps) :
    Calls Try.prog 8 #[.slice A n c, .float .f32 x, .float .f32 y] w fun e w' => e = .returned (.bool true) ∧ Below w.heap.size w w' := by
  obtain ⟨hl, hnc, hc, hT, hw⟩ := h
  have hnm : n ≤ maxLen := Nat.le_trans hnc hc
  have Hl := Lib.hid hl; clear hl
  have HT := Lib.hid hT; clear hT
  have Hw := Lib.hid hw; clear hw
  by_cases hn : 1048576 < n
  · go_enter Try.func8, Try.ntmps8
    go_wp2_with (go_at_call 15; refine (szTrain_any _ _ _ _ hnm).mono ?_; rintro e w1 ⟨rfl, rfl⟩; rw [if_pos hn])
    go_ret
    exact ⟨rfl, Below.refl _ _⟩
  · have hn' : n ≤ 1048576 := by omega
    go_enter Try.func8, Try.ntmps8
    go_wp2_with (go_at_call 15; refine (szTrain_any _ _ _ _ hnm).mono ?_; rintro e w1 ⟨rfl, rfl⟩; rw [if_neg hn])
    refine (toTrain_any A n c ps _ Hl.out hn' HT.out).mono ?_
    rintro e w1 ⟨rfl, m1⟩
    have M1 := Lib.hid m1; clear m1
    go_wp2_with fail
    refine (specLostPower_any _ _ _ ps x y _ Hl.out hn' M1.out.tr Hw.out).mono ?_
    rintro e w1b ⟨r1, rfl, h1, b1⟩
    have H1 := Lib.hid h1; clear h1
    have B1 := Lib.hid (bthen M1.out.below b1); clear b1
    go_wp2_with fail
    refine (toTrain_any A n c ps _ Hl.out hn' (HT.out.keep B1.out)).mono ?_
    rintro e w2 ⟨rfl, m2⟩
    have M2 := Lib.hid m2; clear m2
    have B2 := Lib.hid (bthen B1.out M2.out.below)
    go_wp2_with fail
    refine (implLostPower_any _ _ _ ps x y _ Hl.out hn' M2.out.tr Hw.out).mono ?_
    rintro e w3 ⟨r2, rfl, h2, b3⟩
    have H2 := Lib.hid h2; clear h2
    have X3 := Lib.hid (M2.out.tr.keep b3)
    have B3 := Lib.hid (bthen B2.out b3); clear b3
    rcases cn_cases (H2.out.trans H1.out.symm) with ⟨hn2, hn1⟩ | ⟨hnn, he12⟩
    · have q1 := fun w => run_nan_wide (P := Try.prog) w 31 44 r1 (by rw [Try.underlying31]; rfl) Try.underlying44 hn1
      have q2 := fun w => run_nan_wide (P := Try.prog) w 31 44 r2 (by rw [Try.underlying31]; rfl) Try.underlying44 hn2
      clear hn1 hn2
      go_wp2_with (first | (go_at_call 32; refine (sameFloat_nan _ _ _ (nanTo_nan _ _) (nanTo_nan _ _)).mono ?_; rintro e w' ⟨rfl, rfl⟩) | (go_at_call 17; refine (toTrain_any A n c ps _ Hl.out hn' (HT.out.keep B3.out.drew.drew)).mono ?_; rintro e w4 ⟨rfl, m4⟩; have M4 := Lib.hid m4; clear m4))
      refine (eqTrain_same _ _ _ _ _ ps _ Hl.out hn' ((X3.out.keep ((Below.refl _ _).drew.drew)).keep M4.out.below) M4.out.tr).mono ?_
      rintro e w5 ⟨rfl, b5⟩
      have Fin := Lib.hid (bthen (bthen B3.out.drew.drew M4.out.below) b5); clear b5
      go_wp2
      go_ret
      exact ⟨rfl, Fin.out⟩
    · subst he12
      have q1 := fun w => run_wide (P := Try.prog) w 31 44 r2 (by rw [Try.underlying31]; rfl) Try.underlying44 hnn
      have q3 := (wide_some hnn).2
      clear hnn
      go_wp2_with (first | (go_at_call 32; refine (sameFloat_eq _ _ q3).mono ?_; rintro e w' ⟨rfl, rfl⟩) | (go_at_call 17; refine (toTrain_any A n c ps _ Hl.out hn' (HT.out.keep B3.out)).mono ?_; rintro e w4 ⟨rfl, m4⟩; have M4 := Lib.hid m4; clear m4))
      refine (eqTrain_same _ _ _ _ _ ps _ Hl.out hn' (X3.out.keep M4.out.below) M4.out.tr).mono ?_
      rintro e w5 ⟨rfl, b5⟩
      have Fin := Lib.hid (bthen (bthen B3.out M4.out.below) b5); clear b5
      go_wp2
      go_ret
      exact ⟨rfl, Fin.out⟩
end Go.Proofs.Ytdfookgncokgjab
