/-
  A train read from its text: the law.
-/
import Derived.Test.YtkkcihgnpephiaaDoorTrg
import Derived.Test.YtkkcihgnpephiaaDoorUTr
namespace Go.Proofs.YtkkcihgnpephiaaDoor
open Go.RowKit Go.ChangeShapes Go.WideShapes Go.Deep
attribute [local go_sem ↓] Go.wp_at_zero Go.wp_at_succ
set_option linter.unusedVariables false
set_option linter.unusedSimpArgs false
set_option maxRecDepth 100000
theorem rL_len (l : List UInt8) : (rL (rtrS l)).length ≤ 8 := by
  unfold rtrS rtrW rL
  split
  · rename_i h
    rw [Bool.and_eq_true] at h
    exact (size_bounds h.2).2
  · simp
set_option maxHeartbeats 4000000 in
theorem walk_FnExactReadTrain (t : ByteArray) (wt : t.size ≤ maxLen) (w : World) (hT : TbAt w) (hE : TeAt w) (hM : TmAt w) :
    Calls Tryd.prog 6 #[.string t] w fun e w' => e = .returned (.bool true) ∧ Below w.heap.size w w' := by
  have HT := Lib.hid hT; have HE := Lib.hid hE; have HM := Lib.hid hM
  clear hT hE hM
  unfold maxLen at wt
  by_cases hz : 1048576 < (t.size : Int)
  · go_enter Tryd.func6, Tryd.ntmps6
    go_wp2
    go_ret
    exact ⟨rfl, Below.refl _ _⟩
  · have hs : t.size ≤ 1048576 := by omega
    have L1 := Lib.hid (specReadTrain_any t hs w)
    have L2 := Lib.hid (fun W h1 h2 h3 => implReadTrain_any t hs W h1 h2 h3)
    have hn24 := rL_len t.data.toList
    unfold RdR at L1 L2
    generalize rL (rtrS t.data.toList) = ps at *
    generalize rK (rtrS t.data.toList) = K at *
    obtain ⟨n, hn⟩ : ∃ n, ps.length = n := ⟨_, rfl⟩
    rw [hn] at L1 L2 hn24
    have Hn := Lib.hid hn
    have kb : n ≤ 1048576 := by omega
    have hKK : (K != K) = false := by simp
    clear hs hn
    go_enter Tryd.func6, Tryd.ntmps6
    go_wp2_with fail
    refine L1.out.mono ?_
    rintro e w1 ⟨v1, rfl, ho1, b1⟩
    obtain ⟨A1, c1, rfl, _, hI1, hg1⟩ := pl_of_row ho1
    have I1 := Lib.hid hI1; have G1 := Lib.hid hg1; have D1 := Lib.hid b1
    clear ho1 b1 hI1 hg1
    go_wp2_with fail
    refine (L2.out _ (HT.out.below D1.out) (HE.out.below D1.out) (HM.out.below D1.out)).mono ?_
    rintro e w2 ⟨v2, rfl, ho2, b2⟩
    obtain ⟨A2, c2, rfl, _, hI2, hg2⟩ := pl_of_row ho2
    have G2b : Hid (∀ a, A2 = some a → w1.heap.size ≤ a.block) := Lib.hid (fun a h => (own_base ho2 a.block (by rw [h]; rfl)).1)
    have I2 := Lib.hid hI2; have G2 := Lib.hid hg2; have B2 := Lib.hid b2
    have D2 := Lib.hid (b_then D1.out b2)
    have J2 := Lib.hid (I1.out.keep b2)
    clear ho2 b2 hI2 hg2
    go_wp2_with fail
    refine (eqTrain_same _ _ _ _ _ ps _ Hn.out kb I2.out J2.out).mono ?_
    rintro e w3 ⟨rfl, b3⟩
    have B3 := Lib.hid b3
    have D3 := Lib.hid (b_then D2.out b3)
    have J3 := Lib.hid (J2.out.keep b3)
    clear b3
    go_wp2_with fail
    refine (markTrR_any A2 n c2 w3 hn24 (fun h0 => by
      obtain ⟨g, e, _, hg, ht⟩ := G2.out h0
      have := B3.out.size
      exact ⟨g, e, by omega, there_of_block ht (B3.out.block g hg)⟩)).mono ?_
    rintro e w4 ⟨rfl, m4, mk⟩
    have MK := Lib.hid mk
    have D4 : Hid (Below w.heap.size w w4) := D3.out.trans (m4.2.2 _ (fun a h => Nat.le_trans D1.out.size (G2b.out a h)))
    have J4 : Hid (Px.L w4 w4.heap.size A1 ps) := fun h0 => (J3.out.mb m4 (fun a a' ha ha' => by
      rw [Hn.out] at h0
      obtain ⟨g1, e1, _, hg1, _⟩ := G1.out h0
      have h5 := G2b.out a' ha'
      rw [e1] at ha
      cases ha
      show a'.block ≠ g1
      omega)) h0
    clear m4 mk
    go_wp2_with fail
    refine (heldTrR_any A2 n c2 w4 hn24 MK.out).mono ?_
    rintro e w5 ⟨rfl, b5⟩
    have D5 := Lib.hid (b_then D4.out b5)
    have J5 := Lib.hid (J4.out.keep b5)
    have MK5 := Lib.hid (MK.out.keep b5)
    have hs5 : Hid (∀ b, A2 = some b → True) := fun _ _ => trivial
    clear b5
    have hlt0 : ¬ (1 + 3 * (n : Int) < 0) := by omega
    go_wp2_with fail
    refine (L2.out _ (HT.out.below D5.out) (HE.out.below D5.out) (HM.out.below D5.out)).mono ?_
    rintro e w6 ⟨v6, rfl, ho6, b6⟩
    obtain ⟨A6, c6, rfl, _, hI6, _⟩ := pl_of_row ho6
    have I6 := Lib.hid hI6
    have D6 := Lib.hid (b_then D5.out b6)
    have J6 := Lib.hid (J5.out.keep b6)
    have MK6 := Lib.hid (MK5.out.keep b6)
    clear ho6 b6 hI6
    go_wp2_with fail
    refine (eqTrain_same _ _ _ _ _ ps _ Hn.out kb I6.out J6.out).mono ?_
    rintro e w7 ⟨rfl, b7⟩
    have D7 := Lib.hid (b_then D6.out b7)
    have MK7 := Lib.hid (MK6.out.keep b7)
    clear b7
    go_wp2_with fail
    refine (heldTrR_any A2 n c2 w7 hn24 MK7.out).mono ?_
    rintro e w8 ⟨rfl, b8⟩
    have D8 := Lib.hid (b_then D7.out b8)
    clear b8
    go_wp2
    go_ret
    exact ⟨rfl, D8.out⟩
end Go.Proofs.YtkkcihgnpephiaaDoor
