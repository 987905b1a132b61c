/-
  Functions of a train that answer numbers: is it reversed, its ratio.
-/
import Derived.Test.YtdfookgncokgjaaLawsA
import Derived.Test.YtdfookgncokgjaaRatio
namespace Go.Proofs.Ytdfookgncokgjaa
open Go.RowKit Go.ChangeShapes Go.WideShapes Go.Deep
set_option linter.unusedVariables false
set_option linter.unusedSimpArgs false
def revB (ps : List Pr) : Bool := okTr ps && decide (ps.length % 2 = 1)

set_option maxRecDepth 100000 in
theorem walk_FnExactRatioOf (A : Option Addr) (n c : Nat) (ps : List Pr) (w : World) (h : PairsIn w A n c ps) :
    Calls Try.prog 11 #[.slice A n c] w fun e w' => e = .returned (.bool true) ∧ Below w.heap.size w w' := by
  obtain ⟨hl, hnc, hc, hT, hw⟩ := h
  have hnm : n ≤ maxLen := Nat.le_trans hnc hc
  have Hl := Lib.hid hl; clear hl
  have HT := Lib.hid hT; clear hT
  have Hw := Lib.hid hw; clear hw
  by_cases hn : 1048576 < n
  · go_enter Try.func11, Try.ntmps11
    go_wp2_with (go_at_call 55; refine (szTrain_any _ _ _ _ hnm).mono ?_; rintro e w1 ⟨rfl, rfl⟩; rw [if_pos hn])
    go_ret
    exact ⟨rfl, Below.refl _ _⟩
  · have hn' : n ≤ 1048576 := by omega
    go_enter Try.func11, Try.ntmps11
    go_wp2_with (go_at_call 55; refine (szTrain_any _ _ _ _ hnm).mono ?_; rintro e w1 ⟨rfl, rfl⟩; rw [if_neg hn])
    refine (toTrain_any A n c ps _ Hl.out hn' HT.out).mono ?_
    rintro e w1 ⟨rfl, m1⟩
    have M1 := Lib.hid m1; clear m1
    go_wp2_with fail
    refine (specRatioOf_any _ _ _ ps _ Hl.out hn' M1.out.tr Hw.out).mono ?_
    rintro e w1b ⟨rfl, b1⟩
    have B1 := Lib.hid (bthen M1.out.below b1); clear b1
    go_wp2_with fail
    refine (toTrain_any A n c ps _ Hl.out hn' (HT.out.keep B1.out)).mono ?_
    rintro e w2 ⟨rfl, m2⟩
    have M2 := Lib.hid m2; clear m2
    have B2 := Lib.hid (bthen B1.out M2.out.below)
    go_wp2_with fail
    refine (implRatioOf_any _ _ _ ps _ Hl.out hn' M2.out.tr Hw.out).mono ?_
    rintro e w3 ⟨rfl, b3⟩
    have X3 := Lib.hid (M2.out.tr.keep b3)
    have B3 := Lib.hid (bthen B2.out b3); clear b3
    go_wp2_with (first | (go_at_call 57; refine (toTrain_any A n c ps _ Hl.out hn' (HT.out.keep B3.out)).mono ?_; rintro e w4 ⟨rfl, m4⟩; have M4 := Lib.hid m4; clear m4))
    refine (eqTrain_same _ _ _ _ _ ps _ Hl.out hn' (X3.out.keep M4.out.below) M4.out.tr).mono ?_
    rintro e w5 ⟨rfl, b5⟩
    have Fin := Lib.hid (bthen (bthen B3.out M4.out.below) b5); clear b5
    go_wp2
    go_ret
    exact ⟨rfl, Fin.out⟩

end Go.Proofs.Ytdfookgncokgjaa
