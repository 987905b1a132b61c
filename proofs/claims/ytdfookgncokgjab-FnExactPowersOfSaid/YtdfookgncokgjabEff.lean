/-
  A train's factor and its efficiency.
-/
import Derived.Test.YtdfookgncokgjabLast
import Derived.Test.YtdfookgncokgjabRadius
import Derived.StillTailTactics
namespace Go.Proofs.Ytdfookgncokgjab
open Go.RowKit Go.ChangeShapes Go.WideShapes Go.Deep
set_option linter.unusedVariables false
set_option linter.unusedSimpArgs false
/-- The call returns a number, known up to which NaN it is, and a code, and turns nothing that was there. -/
def FCB (c : Nat) (k : Int) (w : World) (e : Ending) (w' : World) : Prop := ∃ r, e = .returned (.tuple #[.float .f32 r, .int .i64 k]) ∧ cn r = c ∧ Below w.heap.size w w'
def overC (g : Pr → Nat → Nat) (ps : List Pr) : Nat := if okTr ps = true then lastC g (cn 1065353216) ps else cn 0
theorem l01Quotient_any {a b : Int} (w : World) (a1 : 6 ≤ a) (a2 : a ≤ 200) (b1 : 6 ≤ b) (b2 : b ≤ 200) : Calls Try.prog 79 #[.int .i16 a, .int .i16 b] w fun e w' => e = .returned (.float .f32 (quoT a b)) ∧ w' = w := by
  have hq := fun w => run_float_arith (P := Try.prog) w .quo 31 .f32 _ _ _ (quoT_some a1 a2 b1 b2)
  clear a1 a2 b1 b2
  go_enter Try.func79, Try.ntmps79
  go_wp2
  go_ret
  exact ⟨rfl, rfl⟩
theorem implEfficiencyOf_any (A : Option Addr) (n c : Nat) (ps : List Pr) (w : World) (hl : ps.length = n) (hn : n ≤ 1048576) (hT : Tr w w.heap.size A ps) (hw : ∀ p ∈ ps, p.wf) :
    Calls Try.prog 31 #[.slice A n c] w (FCB (overC gPart ps) (codeTr ps) w) := by
  have Hl := Lib.hid hl; clear hl
  have HT := Lib.hid hT; clear hT
  have Hw := Lib.hid hw; clear hw
  unfold overC codeTr
  rcases Bool.eq_false_or_eq_true (okTr ps) with hs | hs
  · simp only [hs, if_true]
    go_enter Try.func31, Try.ntmps31
    go_wp2_with (first | (go_at_call 50; refine (validTrain_any _ _ _ ps _ Hl.out hn HT.out Hw.out).mono ?_; rintro e w1 ⟨rfl, b1⟩; have B1 := Lib.hid b1; have T1 := Lib.hid (HT.out.keep b1); clear b1) | (go_at_call 60; refine (lastAxle_any 61 gPart passPart_any (enters_of Try.func61 (by kernel_rfl) rfl) _ _ _ ps _ _ Hl.out hn T1.out).mono ?_; rintro e w2 ⟨r, rfl, hr, b2⟩; have Hr := Lib.hid hr; have B2 := Lib.hid b2; clear hr b2))
    go_ret2
    exact ⟨r, rfl, Hr.out, bthen B1.out B2.out⟩
  · simp only [hs]
    go_enter Try.func31, Try.ntmps31
    go_wp2_with (go_at_call 50; refine (validTrain_any _ _ _ ps _ Hl.out hn HT.out Hw.out).mono ?_; rintro e w1 ⟨rfl, b1⟩; have B1 := Lib.hid b1; have T1 := Lib.hid (HT.out.keep b1); clear b1)
    go_ret2
    exact ⟨0, rfl, rfl, B1.out⟩
set_option maxRecDepth 100000 in
theorem specEfficiencyOf_any (A : Option Addr) (n c : Nat) (ps : List Pr) (w : World) (hl : ps.length = n) (hn : n ≤ 1048576) (hT : Tr w w.heap.size A ps) (hw : ∀ p ∈ ps, p.wf) :
    Calls Try.prog 30 #[.slice A n c] w (FCB (overC gPart ps) (codeTr ps) w) := by
  have Hl := Lib.hid hl; clear hl
  have HT := Lib.hid hT; clear hT
  have Hw := Lib.hid hw; clear hw
  unfold overC codeTr
  rcases Bool.eq_false_or_eq_true (okTr ps) with hs | hs
  · simp only [hs, if_true]
    go_enter Try.func30, Try.ntmps30
    go_wp2_with (go_at_call 48; refine (l01Ok_any _ _ _ ps _ Hl.out hn HT.out Hw.out).mono ?_; rintro e w1 ⟨rfl, rfl⟩)
    clear hs
    go_loopw [4, 5] (fun u i wr => ∃ (k : Nat) (y : Nat), k ≤ n ∧ i = .int .i64 k ∧ u = .float .f32 y ∧ lastC gPart (cn y) (ps.drop k) = lastC gPart (cn 1065353216) ps ∧ Below w.heap.size w wr) (fun _ i _ => n - (intOf i).toNat)
    case atStart => exact ⟨0, 1065353216, Nat.zero_le _, rfl, rfl, rfl, Below.refl _ _⟩
    case round =>
      obtain ⟨k, y, hk, rfl, rfl, hax, hb⟩ := hrel
      have Hax := Lib.hid hax; have Hb := Lib.hid hb; clear hax hb
      by_cases hlt : k < n
      · have hkl : k < ps.length := by have := Hl.out; omega
        obtain ⟨b, off, rfl, hbs, hc⟩ := HT.out (by omega)
        obtain ⟨p, hp⟩ : ∃ p, ps[k]? = some p := ⟨_, List.getElem?_eq_getElem hkl⟩
        obtain ⟨c0, c1, c2⟩ := cells3 (rangeAt_of_block (hc k p hp) (Hb.out.block b hbs))
        clear hc hkl
        have Hp := Lib.hid hp; clear hp
        go_wp2_with (refine wpList_f32 rfl _ _ _ _ _ _ _ rfl rfl rfl rfl ?_; intro r nd hr; have Hr := Lib.hid hr; clear hr)
        rename_i r1 n1 H1
        have Hinv : Hid (lastC gPart (cn r) (ps.drop (k + 1)) = lastC gPart (cn 1065353216) ps) := by
          obtain ⟨h1, h2⟩ := List.getElem?_eq_some_iff.1 Hp.out
          have e1 := Hax.out
          rw [List.drop_eq_getElem_cons h1, h2, lastC] at e1
          rw [Hr.out, H1.out]
          exact e1
        have HB2 := Lib.hid (below_drewN Hb.out (n1 + nd))
        go_roundw
        case rel => exact ⟨k + 1, r, by omega, by go_num, rfl, Hinv.out, HB2.out⟩
        case measure => simp [intOf]; omega
      · have hkn : k = n := by omega
        subst hkn
        go_wp2
        go_ret2
        refine ⟨y, rfl, ?_, Hb.out⟩
        have e1 := Hax.out
        rw [List.drop_eq_nil_of_le (by have := Hl.out; omega)] at e1
        exact e1
  · simp only [hs]
    go_enter Try.func30, Try.ntmps30
    go_wp2_with (go_at_call 48; refine (l01Ok_any _ _ _ ps _ Hl.out hn HT.out Hw.out).mono ?_; rintro e w1 ⟨rfl, rfl⟩)
    go_ret2
    exact ⟨0, rfl, rfl, Below.refl _ _⟩
set_option maxRecDepth 100000 in
theorem walk_FnExactEfficiencyOf (A : Option Addr) (n c : Nat) (ps : List Pr) (w : World) (h : PairsIn w A n c ps) :
    Calls Try.prog 7 #[.slice A n c] w fun e w' => e = .returned (.bool true) ∧ Below w.heap.size w w' := by
  obtain ⟨hl, hnc, hc, hT, hw⟩ := h
  have hnm : n ≤ maxLen := Nat.le_trans hnc hc
  have Hl := Lib.hid hl; clear hl
  have HT := Lib.hid hT; clear hT
  have Hw := Lib.hid hw; clear hw
  by_cases hn : 1048576 < n
  · go_enter Try.func7, Try.ntmps7
    go_wp2_with (go_at_call 15; refine (szTrain_any _ _ _ _ hnm).mono ?_; rintro e w1 ⟨rfl, rfl⟩; rw [if_pos hn])
    go_ret
    exact ⟨rfl, Below.refl _ _⟩
  · have hn' : n ≤ 1048576 := by omega
    go_enter Try.func7, Try.ntmps7
    go_wp2_with (go_at_call 15; refine (szTrain_any _ _ _ _ hnm).mono ?_; rintro e w1 ⟨rfl, rfl⟩; rw [if_neg hn])
    refine (toTrain_any A n c ps _ Hl.out hn' HT.out).mono ?_
    rintro e w1 ⟨rfl, m1⟩
    have M1 := Lib.hid m1; clear m1
    go_wp2_with fail
    refine (specEfficiencyOf_any _ _ _ ps _ Hl.out hn' M1.out.tr Hw.out).mono ?_
    rintro e w1b ⟨r1, rfl, h1, b1⟩
    have H1 := Lib.hid h1; clear h1
    have B1 := Lib.hid (bthen M1.out.below b1); clear b1
    go_wp2_with fail
    refine (toTrain_any A n c ps _ Hl.out hn' (HT.out.keep B1.out)).mono ?_
    rintro e w2 ⟨rfl, m2⟩
    have M2 := Lib.hid m2; clear m2
    have B2 := Lib.hid (bthen B1.out M2.out.below)
    go_wp2_with fail
    refine (implEfficiencyOf_any _ _ _ ps _ Hl.out hn' M2.out.tr Hw.out).mono ?_
    rintro e w3 ⟨r2, rfl, h2, b3⟩
    have H2 := Lib.hid h2; clear h2
    have X3 := Lib.hid (M2.out.tr.keep b3)
    have B3 := Lib.hid (bthen B2.out b3); clear b3
    rcases cn_cases (H2.out.trans H1.out.symm) with ⟨hn2, hn1⟩ | ⟨hnn, he12⟩
    · have q1 := fun w => run_nan_wide (P := Try.prog) w 31 44 r1 (by rw [Try.underlying31]; rfl) Try.underlying44 hn1
      have q2 := fun w => run_nan_wide (P := Try.prog) w 31 44 r2 (by rw [Try.underlying31]; rfl) Try.underlying44 hn2
      clear hn1 hn2
      go_wp2_with (first | (go_at_call 32; refine (sameFloat_nan _ _ _ (nanTo_nan _ _) (nanTo_nan _ _)).mono ?_; rintro e w' ⟨rfl, rfl⟩) | (go_at_call 17; refine (toTrain_any A n c ps _ Hl.out hn' (HT.out.keep B3.out.drew.drew)).mono ?_; rintro e w4 ⟨rfl, m4⟩; have M4 := Lib.hid m4; clear m4))
      refine (eqTrain_same _ _ _ _ _ ps _ Hl.out hn' ((X3.out.keep ((Below.refl _ _).drew.drew)).keep M4.out.below) M4.out.tr).mono ?_
      rintro e w5 ⟨rfl, b5⟩
      have Fin := Lib.hid (bthen (bthen B3.out.drew.drew M4.out.below) b5); clear b5
      go_wp2
      go_ret
      exact ⟨rfl, Fin.out⟩
    · subst he12
      have q1 := fun w => run_wide (P := Try.prog) w 31 44 r2 (by rw [Try.underlying31]; rfl) Try.underlying44 hnn
      have q3 := (wide_some hnn).2
      clear hnn
      go_wp2_with (first | (go_at_call 32; refine (sameFloat_eq _ _ q3).mono ?_; rintro e w' ⟨rfl, rfl⟩) | (go_at_call 17; refine (toTrain_any A n c ps _ Hl.out hn' (HT.out.keep B3.out)).mono ?_; rintro e w4 ⟨rfl, m4⟩; have M4 := Lib.hid m4; clear m4))
      refine (eqTrain_same _ _ _ _ _ ps _ Hl.out hn' (X3.out.keep M4.out.below) M4.out.tr).mono ?_
      rintro e w5 ⟨rfl, b5⟩
      have Fin := Lib.hid (bthen (bthen B3.out M4.out.below) b5); clear b5
      go_wp2
      go_ret
      exact ⟨rfl, Fin.out⟩
end Go.Proofs.Ytdfookgncokgjab
