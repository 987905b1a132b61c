/-
  A pair of a train, and in how many turns its teeth meet again.
-/
import Derived.Test.YtdfookgncokgjacLawsA
import Derived.Test.YtdfookgncokgjacGcd
import Derived.WalkSmall
namespace Go.Proofs.Ytdfookgncokgjac
open Go.RowKit Go.ChangeShapes Go.WideShapes Go.Deep
set_option linter.unusedVariables false
set_option linter.unusedSimpArgs false
def inB (ps : List Pr) (j : Int) : Bool := decide (0 ≤ j) && decide (j < ps.length)
def pairCode (ps : List Pr) (j : Int) : Int := if okTr ps = true then (if inB ps j = true then 0 else 2) else 1
def pairAt (ps : List Pr) (j : Int) : Pr := ps.getD j.toNat ⟨0, 0, 0⟩
theorem pairError_any (A : Option Addr) (n c : Nat) (ps : List Pr) (j : Int) (w : World) (hl : ps.length = n) (hn : n ≤ 1048576) (hT : Tr w w.heap.size A ps) (hw : ∀ p ∈ ps, p.wf) :
    Calls Try.prog 35 #[.slice A n c, .int .i64 j] w fun e w' => e = .returned (.int .i64 (pairCode ps j)) ∧ Below w.heap.size w w' := by
  have Hl := Lib.hid hl; clear hl
  have HT := Lib.hid hT; clear hT
  have Hw := Lib.hid hw; clear hw
  unfold pairCode inB
  rw [Hl.out]
  rcases Bool.eq_false_or_eq_true (okTr ps) with hs | hs
  · by_cases h1 : 0 ≤ j
    · by_cases h2 : j < (n : Int)
      · simp only [hs, h1, h2]
        go_enter Try.func35, Try.ntmps35
        go_wp2_with (go_at_call 55; refine (validTrain_any _ _ _ ps _ Hl.out hn HT.out Hw.out).mono ?_; rintro e w1 ⟨rfl, b1⟩; have B1 := Lib.hid b1; clear b1)
        go_ret
        exact ⟨rfl, B1.out⟩
      · simp only [hs, h1, h2]
        go_enter Try.func35, Try.ntmps35
        go_wp2_with (go_at_call 55; refine (validTrain_any _ _ _ ps _ Hl.out hn HT.out Hw.out).mono ?_; rintro e w1 ⟨rfl, b1⟩; have B1 := Lib.hid b1; clear b1)
        go_ret
        exact ⟨rfl, B1.out⟩
    · simp only [hs, h1]
      go_enter Try.func35, Try.ntmps35
      go_wp2_with (go_at_call 55; refine (validTrain_any _ _ _ ps _ Hl.out hn HT.out Hw.out).mono ?_; rintro e w1 ⟨rfl, b1⟩; have B1 := Lib.hid b1; clear b1)
      go_ret
      exact ⟨rfl, B1.out⟩
  · simp only [hs]
    go_enter Try.func35, Try.ntmps35
    go_wp2_with (go_at_call 55; refine (validTrain_any _ _ _ ps _ Hl.out hn HT.out Hw.out).mono ?_; rintro e w1 ⟨rfl, b1⟩; have B1 := Lib.hid b1; clear b1)
    go_ret
    exact ⟨rfl, B1.out⟩
theorem l01Pair_any (A : Option Addr) (n c : Nat) (ps : List Pr) (j : Int) (w : World) (hl : ps.length = n) (hn : n ≤ 1048576) (hT : Tr w w.heap.size A ps) (hw : ∀ p ∈ ps, p.wf) :
    Calls Try.prog 32 #[.slice A n c, .int .i64 j] w fun e w' => e = .returned (.int .i64 (pairCode ps j)) ∧ w = w' := by
  have Hl := Lib.hid hl; clear hl
  have HT := Lib.hid hT; clear hT
  have Hw := Lib.hid hw; clear hw
  unfold pairCode inB
  rw [Hl.out]
  rcases Bool.eq_false_or_eq_true (okTr ps) with hs | hs
  · have hn1 : (1 : Int) ≤ n := by have := (size_bounds hs).1; have := Hl.out; omega
    by_cases h1 : 0 ≤ j
    · by_cases h2 : j < (n : Int)
      · have h3 : j ≤ (n : Int) - 1 := by omega
        simp only [hs, h1, h2]
        go_enter Try.func32, Try.ntmps32
        go_wp2_with (first | (go_at_call 53; refine (l01Ok_any _ _ _ ps _ Hl.out hn HT.out Hw.out).mono ?_; rintro e w1 ⟨rfl, rfl⟩) | go_in)
        go_ret
        exact ⟨rfl, rfl⟩
      · have h3 : decide (j ≤ (n : Int) - 1) = false := by simp; omega
        simp only [hs, h1, h2]
        go_enter Try.func32, Try.ntmps32
        go_wp2_with (first | (go_at_call 53; refine (l01Ok_any _ _ _ ps _ Hl.out hn HT.out Hw.out).mono ?_; rintro e w1 ⟨rfl, rfl⟩) | go_in)
        go_ret
        exact ⟨rfl, rfl⟩
    · simp only [hs, h1]
      go_enter Try.func32, Try.ntmps32
      go_wp2_with (first | (go_at_call 53; refine (l01Ok_any _ _ _ ps _ Hl.out hn HT.out Hw.out).mono ?_; rintro e w1 ⟨rfl, rfl⟩) | go_in)
      go_ret
      exact ⟨rfl, rfl⟩
  · simp only [hs]
    go_enter Try.func32, Try.ntmps32
    go_wp2_with (first | (go_at_call 53; refine (l01Ok_any _ _ _ ps _ Hl.out hn HT.out Hw.out).mono ?_; rintro e w1 ⟨rfl, rfl⟩) | go_in)
    go_ret
    exact ⟨rfl, rfl⟩
def turnsV (ps : List Pr) (j : Int) : Nat := if pairCode ps j = 0 then (pairAt ps j).b.toNat / Nat.gcd (pairAt ps j).a.toNat (pairAt ps j).b.toNat else 0
theorem pair_there {ps : List Pr} {j : Int} (h : pairCode ps j = 0) : okTr ps = true ∧ ∃ k : Nat, j = (k : Int) ∧ k < ps.length ∧ ps[k]? = some (pairAt ps j) := by
  unfold pairCode at h
  split at h
  · rename_i h1
    split at h
    · rename_i h2
      unfold inB at h2
      simp only [Bool.and_eq_true, decide_eq_true_eq] at h2
      obtain ⟨k, rfl⟩ := Int.eq_ofNat_of_zero_le h2.1
      have hk : k < ps.length := by omega
      refine ⟨h1, k, rfl, hk, ?_⟩
      unfold pairAt
      rw [Int.toNat_natCast, List.getD_eq_getElem?_getD, List.getElem?_eq_getElem hk]
      rfl
    · cases h
  · cases h
set_option maxRecDepth 100000 in
theorem implTurns_any (A : Option Addr) (n c : Nat) (ps : List Pr) (j : Int) (w : World) (hl : ps.length = n) (hn : n ≤ 1048576) (hT : Tr w w.heap.size A ps) (hw : ∀ p ∈ ps, p.wf) :
    Calls Try.prog 14 #[.slice A n c, .int .i64 j] w fun e w' => e = .returned (.tuple #[.int .i64 (turnsV ps j), .int .i64 (pairCode ps j)]) ∧ Below w.heap.size w w' := by
  have Hl := Lib.hid hl; clear hl
  have HT := Lib.hid hT; clear hT
  have Hw := Lib.hid hw; clear hw
  unfold turnsV
  by_cases h0 : pairCode ps j = 0
  · simp only [h0, if_true]
    obtain ⟨hs, k, hjk, hk, hp⟩ := pair_there h0
    subst hjk
    generalize hP : pairAt ps (k : Int) = p at *
    have HP := Lib.hid hP; clear hP
    obtain ⟨⟨a1, a2⟩, ⟨b1, b2⟩, _⟩ := teeth_bounds hs (List.mem_of_getElem? hp)
    obtain ⟨b, off, rfl, hbs, hc⟩ := HT.out (by omega)
    have Hc := Lib.hid (hc k p hp); clear hc
    have hkn : (k : Int) < (n : Int) := by have := Hl.out; omega
    have hgp : 1 ≤ Nat.gcd p.a.toNat p.b.toNat := Nat.gcd_pos_of_pos_left _ (by omega)
    have Ea : (p.a.toNat : Int) = p.a := Int.toNat_of_nonneg (by omega)
    have Eb : (p.b.toNat : Int) = p.b := Int.toNat_of_nonneg (by omega)
    have HEa := Lib.hid Ea; have HEb := Lib.hid Eb
    have hdv : 0 ≤ p.b / (Nat.gcd p.a.toNat p.b.toNat : Int) ∧ p.b / (Nat.gcd p.a.toNat p.b.toNat : Int) ≤ 200 :=
      ⟨Int.ediv_nonneg (by omega) (by omega), Int.le_trans (Int.ediv_le_self _ (by omega)) (by omega)⟩
    obtain ⟨hd1, hd2⟩ := hdv
    have hgp' : (1 : Int) ≤ (Nat.gcd p.a.toNat p.b.toNat : Int) := by omega
    have a0 : 0 ≤ p.a := by omega
    have b0 : 0 ≤ p.b := by omega
    have a3 : p.a ≤ 9223372036854775807 := by omega
    have b3 : p.b ≤ 9223372036854775807 := by omega
    have Hs := Lib.hid hs
    have Hp := Lib.hid hp; clear hp hs Ea Eb hgp
    generalize hG : Nat.gcd p.a.toNat p.b.toNat = g at *
    have HG := Lib.hid hG; clear hG
    go_enter Try.func14, Try.ntmps14
    go_wp2_with (go_at_call 35; refine (pairError_any _ _ _ ps _ _ Hl.out hn HT.out Hw.out).mono ?_; rintro e w1 ⟨rfl, b1⟩; have B1 := Lib.hid b1; clear b1; have cells := cells3 (rangeAt_of_block Hc.out (B1.out.block b hbs)); obtain ⟨c0, c1, c2⟩ := cells)
    go_quiet (fail)
    go_wp2_with (go_at_call 36; refine (implGcd_int _ _ _ a0 b0 a3 b3).mono ?_; rintro e w2 ⟨rfl, b4⟩; rw [HG.out]; have B2 := Lib.hid b4; clear b4)
    go_ret2
    refine ⟨?_, bthen (below_drewN B1.out _) B2.out⟩
    rw [Int.natCast_ediv, HEb.out]
    rfl
  · have h0b : ((pairCode ps j) == 0) = false := beq_eq_false_iff_ne.2 h0
    have h0n : ((pairCode ps j) != 0) = true := by rw [bne_iff_ne]; exact h0
    simp only [h0, if_false]
    go_enter Try.func14, Try.ntmps14
    go_wp2_with (go_at_call 35; refine (pairError_any _ _ _ ps _ _ Hl.out hn HT.out Hw.out).mono ?_; rintro e w1 ⟨rfl, b1⟩; have B1 := Lib.hid b1; clear b1)
    go_ret2
    exact ⟨rfl, B1.out⟩
set_option maxRecDepth 100000 in
theorem specTurns_any (A : Option Addr) (n c : Nat) (ps : List Pr) (j : Int) (w : World) (hl : ps.length = n) (hn : n ≤ 1048576) (hT : Tr w w.heap.size A ps) (hw : ∀ p ∈ ps, p.wf) :
    Calls Try.prog 12 #[.slice A n c, .int .i64 j] w fun e w' => e = .returned (.tuple #[.int .i64 (turnsV ps j), .int .i64 (pairCode ps j)]) ∧ Below w.heap.size w w' := by
  have Hl := Lib.hid hl; clear hl
  have HT := Lib.hid hT; clear hT
  have Hw := Lib.hid hw; clear hw
  unfold turnsV
  by_cases h0 : pairCode ps j = 0
  · simp only [h0, if_true]
    obtain ⟨hs, k, hjk, hk, hp⟩ := pair_there h0
    subst hjk
    generalize hP : pairAt ps (k : Int) = p at *
    have HP := Lib.hid hP; clear hP
    obtain ⟨⟨a1, a2⟩, ⟨b1, b2⟩, _⟩ := teeth_bounds hs (List.mem_of_getElem? hp)
    obtain ⟨b, off, rfl, hbs, hc⟩ := HT.out (by omega)
    have Hc := Lib.hid (hc k p hp); clear hc
    have hkn : (k : Int) < (n : Int) := by have := Hl.out; omega
    have hgp : 1 ≤ Nat.gcd p.a.toNat p.b.toNat := Nat.gcd_pos_of_pos_left _ (by omega)
    have Ea : (p.a.toNat : Int) = p.a := Int.toNat_of_nonneg (by omega)
    have Eb : (p.b.toNat : Int) = p.b := Int.toNat_of_nonneg (by omega)
    have HEa := Lib.hid Ea; have HEb := Lib.hid Eb
    have hdv : 0 ≤ p.b / (Nat.gcd p.a.toNat p.b.toNat : Int) ∧ p.b / (Nat.gcd p.a.toNat p.b.toNat : Int) ≤ 200 :=
      ⟨Int.ediv_nonneg (by omega) (by omega), Int.le_trans (Int.ediv_le_self _ (by omega)) (by omega)⟩
    obtain ⟨hd1, hd2⟩ := hdv
    have hgp' : (1 : Int) ≤ (Nat.gcd p.a.toNat p.b.toNat : Int) := by omega
    have a0 : 0 ≤ p.a := by omega
    have b0 : 0 ≤ p.b := by omega
    have a3 : p.a ≤ 9223372036854775807 := by omega
    have b3 : p.b ≤ 9223372036854775807 := by omega
    have Hs := Lib.hid hs
    have Hp := Lib.hid hp; clear hp hs Ea Eb hgp
    generalize hG : Nat.gcd p.a.toNat p.b.toNat = g at *
    have HG := Lib.hid hG; clear hG
    go_enter Try.func12, Try.ntmps12
    go_wp2_with (go_at_call 32; refine (l01Pair_any _ _ _ ps _ _ Hl.out hn HT.out Hw.out).mono ?_; rintro e w1 ⟨rfl, rfl⟩; have cells := cells3 Hc.out; obtain ⟨c0, c1, c2⟩ := cells)
    go_wp2_with (go_at_call 33; refine (specGcd_int _ _ _ a0 b0 a3 b3).mono ?_; rintro e w2 ⟨rfl, b4⟩; rw [HG.out]; have B2 := Lib.hid b4; clear b4)
    go_ret2
    refine ⟨?_, B2.out⟩
    rw [Int.natCast_ediv, HEb.out]
    rfl
  · have h0b : ((pairCode ps j) == 0) = false := beq_eq_false_iff_ne.2 h0
    have h0n : ((pairCode ps j) != 0) = true := by rw [bne_iff_ne]; exact h0
    simp only [h0, if_false]
    go_enter Try.func12, Try.ntmps12
    go_wp2_with (go_at_call 32; refine (l01Pair_any _ _ _ ps _ _ Hl.out hn HT.out Hw.out).mono ?_; rintro e w1 ⟨rfl, rfl⟩)
    go_ret2
    exact ⟨rfl, Below.refl _ _⟩
set_option maxRecDepth 100000 in
theorem walk_FnExactTurnsToMeet (A : Option Addr) (n c : Nat) (ps : List Pr) (j : Int) (wj : (Lit.int .i64 j).wf = true) (w : World) (h : PairsIn w A n c ps) :
    Calls Try.prog 3 #[.slice A n c, .int .i64 j] w fun e w' => e = .returned (.bool true) ∧ Below w.heap.size w w' := by
  obtain ⟨hl, hnc, hc, hT, hw⟩ := h
  have hnm : n ≤ maxLen := Nat.le_trans hnc hc
  have Hl := Lib.hid hl; clear hl
  have HT := Lib.hid hT; clear hT
  have Hw := Lib.hid hw; clear hw
  by_cases hn : 1048576 < n
  · go_enter Try.func3, Try.ntmps3
    go_wp2_with (go_at_call 11; refine (szTrain_any _ _ _ _ hnm).mono ?_; rintro e w1 ⟨rfl, rfl⟩; rw [if_pos hn])
    go_ret
    exact ⟨rfl, Below.refl _ _⟩
  · have hn' : n ≤ 1048576 := by omega
    go_enter Try.func3, Try.ntmps3
    go_wp2_with (go_at_call 11; refine (szTrain_any _ _ _ _ hnm).mono ?_; rintro e w1 ⟨rfl, rfl⟩; rw [if_neg hn])
    refine (toTrain_any A n c ps _ Hl.out hn' HT.out).mono ?_
    rintro e w1 ⟨rfl, m1⟩
    have M1 := Lib.hid m1; clear m1
    go_wp2_with fail
    refine (specTurns_any _ _ _ ps j _ Hl.out hn' M1.out.tr Hw.out).mono ?_
    rintro e w1b ⟨rfl, b1⟩
    have B1 := Lib.hid (bthen M1.out.below b1); clear b1
    go_wp2_with fail
    refine (toTrain_any A n c ps _ Hl.out hn' (HT.out.keep B1.out)).mono ?_
    rintro e w2 ⟨rfl, m2⟩
    have M2 := Lib.hid m2; clear m2
    have B2 := Lib.hid (bthen B1.out M2.out.below)
    go_wp2_with fail
    refine (implTurns_any _ _ _ ps j _ Hl.out hn' M2.out.tr Hw.out).mono ?_
    rintro e w3 ⟨rfl, b3⟩
    have X3 := Lib.hid (M2.out.tr.keep b3)
    have B3 := Lib.hid (bthen B2.out b3); clear b3
    go_wp2_with (first | (go_at_call 13; refine (toTrain_any A n c ps _ Hl.out hn' (HT.out.keep B3.out)).mono ?_; rintro e w4 ⟨rfl, m4⟩; have M4 := Lib.hid m4; clear m4))
    refine (eqTrain_same _ _ _ _ _ ps _ Hl.out hn' (X3.out.keep M4.out.below) M4.out.tr).mono ?_
    rintro e w5 ⟨rfl, b5⟩
    have Fin := Lib.hid (bthen (bthen B3.out M4.out.below) b5); clear b5
    go_wp2
    go_ret
    exact ⟨rfl, Fin.out⟩

end Go.Proofs.Ytdfookgncokgjac
