/-
  A pair of a train.
-/
import Derived.Test.YtolbacgfcobmdaaLawsA
import Derived.WalkSmall
namespace Go.Proofs.Ytolbacgfcobmdaa
open Go.RowKit Go.ChangeShapes Go.WideShapes Go.Deep
set_option linter.unusedVariables false
set_option linter.unusedSimpArgs false
def inB (ps : List Pr) (j : Int) : Bool := decide (0 ≤ j) && decide (j < ps.length)
def pairCode (ps : List Pr) (j : Int) : Int := if okTr ps = true then (if inB ps j = true then 0 else 2) else 1
def pairAt (ps : List Pr) (j : Int) : Pr := ps.getD j.toNat ⟨0, 0, 0⟩
theorem pairError_any (A : Option Addr) (n c : Nat) (ps : List Pr) (j : Int) (w : World) (hl : ps.length = n) (hn : n ≤ 1048576) (hT : Tr w w.heap.size A ps) (hw : ∀ p ∈ ps, p.wf) :
    Calls Try.prog 43 #[.slice A n c, .int .i64 j] w fun e w' => e = .returned (.int .i64 (pairCode ps j)) ∧ Below w.heap.size w w' := by
  have Hl := Lib.hid hl; clear hl
  have HT := Lib.hid hT; clear hT
  have Hw := Lib.hid hw; clear hw
  unfold pairCode inB
  rw [Hl.out]
  rcases Bool.eq_false_or_eq_true (okTr ps) with hs | hs
  · by_cases h1 : 0 ≤ j
    · by_cases h2 : j < (n : Int)
      · simp only [hs, h1, h2]
        go_enter Try.func43, Try.ntmps43
        go_wp2_with (go_at_call 37; refine (validTrain_any _ _ _ ps _ Hl.out hn HT.out Hw.out).mono ?_; rintro e w1 ⟨rfl, b1⟩; have B1 := Lib.hid b1; clear b1)
        go_ret
        exact ⟨rfl, B1.out⟩
      · simp only [hs, h1, h2]
        go_enter Try.func43, Try.ntmps43
        go_wp2_with (go_at_call 37; refine (validTrain_any _ _ _ ps _ Hl.out hn HT.out Hw.out).mono ?_; rintro e w1 ⟨rfl, b1⟩; have B1 := Lib.hid b1; clear b1)
        go_ret
        exact ⟨rfl, B1.out⟩
    · simp only [hs, h1]
      go_enter Try.func43, Try.ntmps43
      go_wp2_with (go_at_call 37; refine (validTrain_any _ _ _ ps _ Hl.out hn HT.out Hw.out).mono ?_; rintro e w1 ⟨rfl, b1⟩; have B1 := Lib.hid b1; clear b1)
      go_ret
      exact ⟨rfl, B1.out⟩
  · simp only [hs]
    go_enter Try.func43, Try.ntmps43
    go_wp2_with (go_at_call 37; refine (validTrain_any _ _ _ ps _ Hl.out hn HT.out Hw.out).mono ?_; rintro e w1 ⟨rfl, b1⟩; have B1 := Lib.hid b1; clear b1)
    go_ret
    exact ⟨rfl, B1.out⟩
theorem l01Pair_any (A : Option Addr) (n c : Nat) (ps : List Pr) (j : Int) (w : World) (hl : ps.length = n) (hn : n ≤ 1048576) (hT : Tr w w.heap.size A ps) (hw : ∀ p ∈ ps, p.wf) :
    Calls Try.prog 41 #[.slice A n c, .int .i64 j] w fun e w' => e = .returned (.int .i64 (pairCode ps j)) ∧ w = w' := by
  have Hl := Lib.hid hl; clear hl
  have HT := Lib.hid hT; clear hT
  have Hw := Lib.hid hw; clear hw
  unfold pairCode inB
  rw [Hl.out]
  rcases Bool.eq_false_or_eq_true (okTr ps) with hs | hs
  · have hn1 : (1 : Int) ≤ n := by have := (size_bounds hs).1; have := Hl.out; omega
    by_cases h1 : 0 ≤ j
    · by_cases h2 : j < (n : Int)
      · have h3 : j ≤ (n : Int) - 1 := by omega
        simp only [hs, h1, h2]
        go_enter Try.func41, Try.ntmps41
        go_wp2_with (first | (go_at_call 35; refine (l01Ok_any _ _ _ ps _ Hl.out hn HT.out Hw.out).mono ?_; rintro e w1 ⟨rfl, rfl⟩) | go_in)
        go_ret
        exact ⟨rfl, rfl⟩
      · have h3 : decide (j ≤ (n : Int) - 1) = false := by simp; omega
        simp only [hs, h1, h2]
        go_enter Try.func41, Try.ntmps41
        go_wp2_with (first | (go_at_call 35; refine (l01Ok_any _ _ _ ps _ Hl.out hn HT.out Hw.out).mono ?_; rintro e w1 ⟨rfl, rfl⟩) | go_in)
        go_ret
        exact ⟨rfl, rfl⟩
    · simp only [hs, h1]
      go_enter Try.func41, Try.ntmps41
      go_wp2_with (first | (go_at_call 35; refine (l01Ok_any _ _ _ ps _ Hl.out hn HT.out Hw.out).mono ?_; rintro e w1 ⟨rfl, rfl⟩) | go_in)
      go_ret
      exact ⟨rfl, rfl⟩
  · simp only [hs]
    go_enter Try.func41, Try.ntmps41
    go_wp2_with (first | (go_at_call 35; refine (l01Ok_any _ _ _ ps _ Hl.out hn HT.out Hw.out).mono ?_; rintro e w1 ⟨rfl, rfl⟩) | go_in)
    go_ret
    exact ⟨rfl, rfl⟩
theorem pair_there {ps : List Pr} {j : Int} (h : pairCode ps j = 0) : okTr ps = true ∧ ∃ k : Nat, j = (k : Int) ∧ k < ps.length ∧ ps[k]? = some (pairAt ps j) := by
  unfold pairCode at h
  split at h
  · rename_i h1
    split at h
    · rename_i h2
      unfold inB at h2
      simp only [Bool.and_eq_true, decide_eq_true_eq] at h2
      obtain ⟨k, rfl⟩ := Int.eq_ofNat_of_zero_le h2.1
      have hk : k < ps.length := by omega
      refine ⟨h1, k, rfl, hk, ?_⟩
      unfold pairAt
      rw [Int.toNat_natCast, List.getD_eq_getElem?_getD, List.getElem?_eq_getElem hk]
      rfl
    · cases h
  · cases h
end Go.Proofs.Ytolbacgfcobmdaa
