/-
  The law of LoneSpeed.
-/
import Derived.Test.YtdpgfbmelnmkdabDoorLnp
namespace Go.Proofs.YtdpgfbmelnmkdabDoor
open Go.RowKit Go.ChangeShapes Go.WideShapes Go.Deep
attribute [local go_sem ↓] Go.wp_at_zero Go.wp_at_succ
set_option linter.unusedVariables false
set_option linter.unusedSimpArgs false
theorem rfcz {k : Int} {c : Nat} {w w' : World} {e : Ending} (hc : c = cn 0) (h : RFCz k w e w') : RFC c k w e w' := ⟨0, h.1, hc.symm, h.2⟩
theorem implLone_any (A : Option Addr) (n c : Nat) (ds : List Dc) (lo hi : Nat) (w : World) (hE : EtAt w) (hl : ds.length = n) (hn : n ≤ 1048576) (hT : Dc.L w w.heap.size A ds) :
    Calls Tryd.prog 27 #[.slice A n c, .float .f32 lo, .float .f32 hi] w (RFC (loneC ds lo hi) (codeO ds lo hi) w) := by
  cases hk : okLine ds
  · have h1 := codeO_bad lo hi hk
    have h2 := loneC_no h1 (by decide)
    rw [h1, h2]
    exact (implLone_err A n c ds lo hi 1 w hE hl hn hT (by unfold codeSh; rw [hk]; rfl) (by decide)).mono fun e w' h => rfcz rfl h
  · cases hr : inR lo hi
    · have h1 := codeO_range hk hr
      have h2 := loneC_no h1 (by decide)
      rw [h1, h2]
      exact (implLone_err A n c ds lo hi 2 w hE hl hn hT (by unfold codeSh; rw [hk, hr]; rfl) (by decide)).mono fun e w' h => rfcz rfl h
    · exact implLone_yes A n c ds lo hi w hl hn hT hk hr
theorem specLone_any (A : Option Addr) (n c : Nat) (ds : List Dc) (lo hi : Nat) (w : World) (hl : ds.length = n) (hn : n ≤ 1048576) (hT : Dc.L w w.heap.size A ds) :
    Calls Tryd.prog 26 #[.slice A n c, .float .f32 lo, .float .f32 hi] w (RFC (loneC ds lo hi) (codeO ds lo hi) w) := by
  cases hk : okLine ds
  · have h1 := codeO_bad lo hi hk
    have h2 := loneC_no h1 (by decide)
    rw [h1, h2]
    exact (specLone_bad A n c ds lo hi w hl hn hT hk).mono fun e w' h => rfcz rfl h
  · cases hr : inR lo hi
    · have h1 := codeO_range hk hr
      have h2 := loneC_no h1 (by decide)
      rw [h1, h2]
      exact (specLone_range A n c ds lo hi w hl hn hT hk hr).mono fun e w' h => rfcz rfl h
    · exact specLone_yes A n c ds lo hi w hl hn hT hk hr
set_option maxRecDepth 100000 in
set_option maxHeartbeats 4000000 in
theorem walk_FnExactLoneSpeed (A_0 : Option Addr) (n_0 c_0 : Nat) (p_0 : List Dc) (x1 : Nat) (wx1 : (Lit.float .f32 x1).wf = true) (x2 : Nat) (wx2 : (Lit.float .f32 x2).wf = true) (w : World) (h_0 : Dc.In w A_0 n_0 c_0 p_0) (hE : EtAt w) :
    Calls Tryd.prog 7 #[.slice A_0 n_0 c_0, .float .f32 x1, .float .f32 x2] w fun e w' => e = .returned (.bool true) ∧ Below w.heap.size w w' := by
  have HE := Lib.hid hE; clear hE
  obtain ⟨hl0, hnc0, hc0, hT0, hw0⟩ := h_0
  have hnm0 : n_0 ≤ maxLen := Nat.le_trans hnc0 hc0
  unfold maxLen at hnm0
  have Hl0 := Lib.hid hl0; clear hl0
  have HT0 := Lib.hid hT0; clear hT0
  have Hw0 := Lib.hid hw0; clear hw0
  clear hnc0 hc0
  by_cases z0 : 1048576 < (n_0 : Int)
  · go_enter Tryd.func7, Tryd.ntmps7
    go_wp2_with fail
    refine (Dc.sz_any _ _ _ _ _ (by unfold maxLen; exact hnm0) (by omega) (by omega)).mono ?_
    rintro e v0 ⟨rfl, rfl⟩
    rw [if_pos (by omega)]
    go_wp2
    go_ret
    exact ⟨rfl, Below.refl _ _⟩
  have kb0 : n_0 ≤ 1048576 := by omega
  go_enter Tryd.func7, Tryd.ntmps7
  go_wp2_with fail
  refine (Dc.sz_any _ _ _ _ _ (by unfold maxLen; exact hnm0) (by omega) (by omega)).mono ?_
  rintro e v0 ⟨rfl, rfl⟩
  rw [if_neg (by omega)]
  go_wp2_with fail
  refine (Dc.to_any A_0 n_0 c_0 p_0 _ Hl0.out kb0 HT0.out).mono ?_
  rintro e w1 ⟨rfl, m1⟩
  have M1 := Lib.hid m1; clear m1
  have B1 : Hid (Below w.heap.size w w1) := M1.out.2.2.2
  have f1 : w.heap.size < w1.heap.size := M1.out.2.2.1
  have D1 : Hid (Below w.heap.size w w1) := B1.out
  have s1 : w.heap.size ≤ w1.heap.size := B1.out.size
  go_wp2_with fail
  refine (specLone_any _ _ _ p_0 x1 x2 _ Hl0.out kb0 M1.out.l).mono ?_
  rintro e w2 ⟨r2_0, rfl, g2_0, b2⟩
  have B2 := Lib.hid b2; clear b2
  have G2_0 := Lib.hid g2_0; clear g2_0
  have D2 : Hid (Below w.heap.size w w2) := b_then D1.out B2.out
  have s2 : w1.heap.size ≤ w2.heap.size := B2.out.size
  go_wp2_with fail
  refine (Dc.to_any A_0 n_0 c_0 p_0 _ Hl0.out kb0 (HT0.out.keep D2.out)).mono ?_
  rintro e w3 ⟨rfl, m3⟩
  have M3 := Lib.hid m3; clear m3
  have B3 : Hid (Below w2.heap.size w2 w3) := M3.out.2.2.2
  have f3 : w2.heap.size < w3.heap.size := M3.out.2.2.1
  have D3 : Hid (Below w.heap.size w w3) := b_then D2.out B3.out
  have s3 : w2.heap.size ≤ w3.heap.size := B3.out.size
  go_wp2_with fail
  refine (implLone_any _ _ _ p_0 x1 x2 _ (EtAt.on HE.out (by rfl) D3.out) Hl0.out kb0 M3.out.l).mono ?_
  rintro e w4 ⟨r4_0, rfl, g4_0, b4⟩
  have B4 := Lib.hid b4; clear b4
  have G4_0 := Lib.hid g4_0; clear g4_0
  have D4 : Hid (Below w.heap.size w w4) := b_then D3.out B4.out
  have s4 : w3.heap.size ≤ w4.heap.size := B4.out.size
  obtain ⟨z0, y0, dz0, dy0, cz0, cy0, hs0⟩ := conv2 (G4_0.out.trans G2_0.out.symm : cn r4_0 = cn r2_0)
  have HS0 := Lib.hid hs0; clear hs0
  go_wp2_with fail
  refine (HS0.out _ _ _).mono ?_
  rintro e w5 ⟨rfl, hw5⟩
  have B5 : Hid (Below w4.heap.size w4 w5) := by rw [← hw5]; repeat (first | exact Below.refl _ _ | refine b_drewN ?_ _ | refine b_drew ?_)
  clear hw5
  have D5 : Hid (Below w.heap.size w w5) := b_then D4.out B5.out
  have s5 : w4.heap.size ≤ w5.heap.size := B5.out.size
  clear cz0 cy0
  go_wp2_with fail
  refine (Dc.to_any A_0 n_0 c_0 p_0 _ Hl0.out kb0 (HT0.out.keep D5.out)).mono ?_
  rintro e w6 ⟨rfl, m6⟩
  have M6 := Lib.hid m6; clear m6
  have B6 : Hid (Below w5.heap.size w5 w6) := M6.out.2.2.2
  have f6 : w5.heap.size < w6.heap.size := M6.out.2.2.1
  have D6 : Hid (Below w.heap.size w w6) := b_then D5.out B6.out
  have s6 : w5.heap.size ≤ w6.heap.size := B6.out.size
  go_wp2_with fail
  refine (Dc.eq_any _ _ _ _ _ p_0 p_0 _ Hl0.out rfl kb0 (((M3.out.l.keep B4.out).keep B5.out).keep B6.out) M6.out.l).mono ?_
  rintro e w7 ⟨rfl, b7⟩
  have B7 := Lib.hid b7; clear b7
  have D7 : Hid (Below w.heap.size w w7) := b_then D6.out B7.out
  have s7 : w6.heap.size ≤ w7.heap.size := B7.out.size
  go_wp2
  go_ret
  exact ⟨rfl, D7.out⟩
end Go.Proofs.YtdpgfbmelnmkdabDoor
