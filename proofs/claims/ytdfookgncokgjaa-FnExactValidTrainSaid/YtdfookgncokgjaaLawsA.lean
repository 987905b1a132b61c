/-
  The laws' own walks over trains, first part.
-/
import Derived.Test.YtdfookgncokgjaaValid
import Derived.Test.YtdfookgncokgjaaPairsIn
namespace Go.Proofs.Ytdfookgncokgjaa
open Go.RowKit Go.ChangeShapes Go.WideShapes Go.Deep
set_option linter.unusedVariables false
theorem bthen {w w1 w2 : World} (h : Below w.heap.size w w1) (k : Below w1.heap.size w1 w2) : Below w.heap.size w w2 := h.trans (k.mono h.size)
def codeTr (ps : List Pr) : Int := if okTr ps = true then 0 else 1
theorem teeth_bounds {ps : List Pr} (h : okTr ps = true) {p : Pr} (hp : p ∈ ps) : (6 ≤ p.a ∧ p.a ≤ 200) ∧ (6 ≤ p.b ∧ p.b ≤ 200) ∧ partB p.l = true := by
  unfold okTr at h
  simp only [Bool.and_eq_true, List.all_eq_true] at h
  have h2 := h.2 p hp
  unfold okP teethP partP teethB at h2
  simp only [Bool.and_eq_true, decide_eq_true_eq] at h2
  exact ⟨h2.1.1, h2.1.2, h2.2⟩
theorem size_bounds {ps : List Pr} (h : okTr ps = true) : 1 ≤ ps.length ∧ ps.length ≤ 8 := by
  unfold okTr sizeB at h
  simp only [Bool.and_eq_true, decide_eq_true_eq] at h
  exact h.1
theorem Made.below {w w' : World} {n : Nat} {ps : List Pr} (h : Made w w' n ps) : Below w.heap.size w w' := h.2.2.2
theorem Made.tr {w w' : World} {n : Nat} {ps : List Pr} (h : Made w w' n ps) : Tr w' w'.heap.size (some ⟨w.heap.size, 0, none⟩) ps := fun _ =>
  ⟨w.heap.size, 0, rfl, h.2.2.1, fun i p hp => by rw [Nat.zero_add]; exact h.2.1 i p hp⟩
theorem Tr.keep {w w' : World} {A : Option Addr} {ps : List Pr} (h : Tr w w.heap.size A ps) (hb : Below w.heap.size w w') : Tr w' w'.heap.size A ps := (h.below hb (Nat.le_refl _)).more hb.size
theorem specValid_any (A : Option Addr) (n c : Nat) (ps : List Pr) (w : World) (hl : ps.length = n) (hn : n ≤ 1048576) (hT : Tr w w.heap.size A ps) (hw : ∀ p ∈ ps, p.wf) :
    Calls Try.prog 56 #[.slice A n c] w fun e w' => e = .returned (.bool (okTr ps)) ∧ w = w' := by
  have Hl := Lib.hid hl; clear hl
  have HT := Lib.hid hT; clear hT
  have Hw := Lib.hid hw; clear hw
  go_enter Try.func56, Try.ntmps56
  go_wp2_with (go_at_call 80; refine (l01Ok_any _ _ _ ps _ Hl.out hn HT.out Hw.out).mono ?_; rintro e w1 ⟨rfl, rfl⟩)
  go_ret
  exact ⟨rfl, rfl⟩
set_option maxRecDepth 100000 in
theorem walk_FnExactValidTrain (A : Option Addr) (n c : Nat) (ps : List Pr) (w : World) (h : PairsIn w A n c ps) :
    Calls Try.prog 9 #[.slice A n c] w fun e w' => e = .returned (.bool true) ∧ Below w.heap.size w w' := by
  obtain ⟨hl, hnc, hc, hT, hw⟩ := h
  have hnm : n ≤ maxLen := Nat.le_trans hnc hc
  have Hl := Lib.hid hl; clear hl
  have HT := Lib.hid hT; clear hT
  have Hw := Lib.hid hw; clear hw
  by_cases hn : 1048576 < n
  · go_enter Try.func9, Try.ntmps9
    go_wp2_with (go_at_call 55; refine (szTrain_any _ _ _ _ hnm).mono ?_; rintro e w1 ⟨rfl, rfl⟩; rw [if_pos hn])
    go_ret
    exact ⟨rfl, Below.refl _ _⟩
  · have hn' : n ≤ 1048576 := by omega
    go_enter Try.func9, Try.ntmps9
    go_wp2_with (go_at_call 55; refine (szTrain_any _ _ _ _ hnm).mono ?_; rintro e w1 ⟨rfl, rfl⟩; rw [if_neg hn])
    refine (toTrain_any A n c ps _ Hl.out hn' HT.out).mono ?_
    rintro e w1 ⟨rfl, m1⟩
    have M1 := Lib.hid m1; clear m1
    go_wp2_with fail
    refine (specValid_any _ _ _ ps _ Hl.out hn' M1.out.tr Hw.out).mono ?_
    rintro e w1' ⟨rfl, rfl⟩
    have T1 := Lib.hid (HT.out.keep M1.out.below)
    go_wp2_with fail
    refine (toTrain_any A n c ps _ Hl.out hn' T1.out).mono ?_
    rintro e w2 ⟨rfl, m2⟩
    have M2 := Lib.hid m2; clear m2
    go_wp2_with fail
    refine (validTrain_any _ _ _ ps _ Hl.out hn' M2.out.tr Hw.out).mono ?_
    rintro e w3 ⟨rfl, b3⟩
    have B3 := Lib.hid b3; clear b3
    have T3 := Lib.hid ((T1.out.keep M2.out.below).keep B3.out)
    have X3 := Lib.hid (M2.out.tr.keep B3.out)
    go_wp2_with fail
    refine (toTrain_any A n c ps _ Hl.out hn' T3.out).mono ?_
    rintro e w4 ⟨rfl, m4⟩
    have M4 := Lib.hid m4; clear m4
    go_wp2_with fail
    refine (eqTrain_same _ _ _ _ _ ps _ Hl.out hn' (X3.out.keep M4.out.below) M4.out.tr).mono ?_
    rintro e w5 ⟨rfl, b5⟩
    have B5 := Lib.hid b5; clear b5
    have Fin := Lib.hid (((((M1.out.below.trans (M2.out.below.mono M1.out.below.size)).trans (B3.out.mono (Nat.le_trans M1.out.below.size M2.out.below.size))).trans (M4.out.below.mono (Nat.le_trans (Nat.le_trans M1.out.below.size M2.out.below.size) B3.out.size))).trans (B5.out.mono (Nat.le_trans (Nat.le_trans (Nat.le_trans M1.out.below.size M2.out.below.size) B3.out.size) M4.out.below.size))))
    go_wp2
    go_ret
    exact ⟨rfl, Fin.out⟩
end Go.Proofs.Ytdfookgncokgjaa
