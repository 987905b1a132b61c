/-
  'LoneSpeed', the program's, where the line and the numbers are valid.
-/
import Derived.Test.YtaodpopghacmaaaDoorLnm
namespace Go.Proofs.YtaodpopghacmaaaDoor
open Go.RowKit Go.ChangeShapes Go.WideShapes Go.Deep
attribute [local go_sem ↓] Go.wp_at_zero Go.wp_at_succ
set_option linter.unusedVariables false
set_option linter.unusedSimpArgs false
set_option maxRecDepth 100000
set_option maxHeartbeats 4000000 in
theorem implLone_yes (A : Option Addr) (n c : Nat) (ds : List Dc) (lo hi : Nat) (w : World) (hl : ds.length = n) (hn : n ≤ 1048576) (hT : Dc.L w w.heap.size A ds) (hk : okLine ds = true) (hr : inR lo hi = true) :
    Calls Tryd.prog 13 #[.slice A n c, .float .f32 lo, .float .f32 hi] w (RFC (loneC ds lo hi) (codeO ds lo hi) w) := by
  obtain ⟨R, N, hR, hC⟩ := ops_fun Tryd.prog 26; have ra := hR .add rfl; have rs := hR .sub rfl; have rm := hR .mul rfl; have rq := hR .quo rfl; have HC := Lib.hid hC; clear hC hR
  have hT1 : Dc.L (w.alloc (.cells #[.float .f32 lo, .float .f32 hi] 26)) (w.alloc (.cells #[.float .f32 lo, .float .f32 hi] 26)).heap.size A ds := hT.keep (b_alloc (Below.refl _ _) _)
  have hv2 := shaft_ok A n c ds hk _ hl hn hT1
  have ha := allSize_any (some ⟨w.heap.size, 0, none⟩) 2 2 [lo, hi] (w.alloc (.cells #[.float .f32 lo, .float .f32 hi] 26)) rfl (by decide) (fo_two w lo hi)
  rw [show [lo, hi].all psB = (psB lo && psB hi) by simp] at ha
  obtain ⟨ht, hlt⟩ : (psB lo && psB hi) = true ∧ oLt lo hi = true := by
    unfold inR at hr
    simp at hr
    simp [hr]
  rw [ht] at ha
  unfold oLt at hlt
  have h2n := okLine_len hk
  rw [hl] at h2n
  obtain ⟨h2n, h10⟩ := h2n
  have HV := Lib.hid hv2; have HA := Lib.hid ha; have Hl := Lib.hid hl; have HT := Lib.hid hT
  have HK := Lib.hid hk; have HR := Lib.hid hr
  have n1 : ∀ w, (binOp .neq 43 .nilIface .nilIface).run Tryd.prog w = .ok (.bool false) w := fun w => by kernel_rfl
  clear hv2 ha hT hT1 ht hl hk hr
  go_enter Tryd.func13, Tryd.ntmps13
  go_wp2_with fail
  refine HA.out.mono ?_
  rintro e w1 ⟨rfl, rfl⟩
  go_wp2_with fail
  refine HV.out.mono ?_
  rintro e w2 ⟨rfl, b2⟩
  have B2 : Hid (Below w.heap.size w w2) := b_then (b_alloc (Below.refl _ _) _) b2
  clear b2
  go_wp2_with fail
  refine (lastTwist_any A n c ds lo _ Hl.out (by omega) hn (HT.out.keep B2.out)).mono ?_
  rintro e w3 ⟨S, rfl, hS, b3⟩
  have B3 : Hid (Below w.heap.size w w3) := b_then B2.out b3
  have HS : Hid (cn S = lst ds lo) := hS
  clear b3 hS
  go_wp2_with fail
  refine (lastTwist_any A n c ds hi _ Hl.out (by omega) hn (HT.out.keep B3.out)).mono ?_
  rintro e w4 ⟨Hh, rfl, hH, b4⟩
  have B4 : Hid (Below w.heap.size w w4) := b_then B3.out b4
  have hap : apB S Hh = apB (lst ds lo) (lst ds hi) := apB_cn (by rw [HS.out, cn_lst]) (by rw [show cn Hh = lst ds hi from hH, cn_lst])
  obtain ⟨t, ht⟩ : ∃ t, apB S Hh = t := ⟨_, rfl⟩
  have hop := Lib.hid (fun w => opposed_any S Hh w)
  rw [ht] at hop
  rw [ht] at hap
  have HAP := Lib.hid hap
  clear b4 hH hap ht
  cases t
  · have hK := codeO_none HK.out HR.out HAP.out.symm
    have HKc := Lib.hid hK
    clear hK
    go_wp2_with fail
    refine (hop.out _).mono ?_
    rintro e w5 ⟨rfl, rfl⟩
    go_wp2
    go_ret2
    exact ⟨0, by rw [HKc.out]; rfl, (loneC_no HKc.out (by decide)).symm, B4.out⟩
  · have hK := codeO_ok HK.out HR.out HAP.out.symm
    have HKc := Lib.hid hK
    clear hK
    go_wp2_with fail
    refine (hop.out _).mono ?_
    rintro e w5 ⟨rfl, rfl⟩
    go_wp2_with fail
    go_loopw [1, 2, 11, 39] (fun u v m i wr => ∃ (k lo' hi' : Nat), k ≤ 40 ∧ i = .int .i64 k ∧ u = .float .f32 lo' ∧ v = .float .f32 hi' ∧ Hid ((cn lo', cn hi') = loneN ds (lst ds lo) k (cn lo, cn hi)) ∧ Hid (Below w.heap.size w wr)) (fun _ _ _ i _ => 40 - (intOf i).toNat)
    case atStart => exact ⟨0, lo, hi, Nat.zero_le _, rfl, rfl, rfl, (by show _ = _; rfl), B4⟩
    case round =>
      obtain ⟨k, lo', hi', hk, rfl, rfl, rfl, hp, hb⟩ := hrel
      by_cases hlt : k < 40
      · have hmid : Hid (∀ w1 w2, cn (R .quo (R .add lo' hi' w1) 1073741824 w2) = f2 .quo (f2 .add (cn lo') (cn hi')) (cn 1073741824)) := fun w1 w2 => by rw [HC.out .quo rfl, HC.out .add rfl]
        go_wp2_with fail
        refine (lastTwist_any A n c ds _ _ Hl.out (by omega) hn (HT.out.keep (b_drewN hb.out _))).mono ?_
        rintro e w6 ⟨r, rfl, hr, b6⟩
        have B6 : Hid (Below w.heap.size w w6) := b_then (b_drewN hb.out _) b6
        have hst := lone_step (S := lst ds lo) (p := (cn lo, cn hi)) (k := k) hp (hmid.out _ _) hr
        have hak : akB r S = akB r (lst ds lo) := akB_cn rfl (by rw [HS.out, cn_lst])
        obtain ⟨t, ht⟩ : ∃ t, akB r S = t := ⟨_, rfl⟩
        have hop2 := Lib.hid (fun w => alike_any r S w)
        rw [ht] at hop2
        rw [← hak, ht] at hst
        have Hst := Lib.hid hst
        clear b6 hr hst hak ht hp
        cases t
        all_goals
          go_wp2_with fail
          refine (hop2.out _).mono ?_
          rintro e w7 ⟨rfl, rfl⟩
          go_wp2
          go_roundw
          case rel => exact ⟨k + 1, _, _, by omega, by go_num, rfl, rfl, Hst.out.symm, B6⟩
          case measure => simp [intOf]; omega
      · obtain rfl : k = 40 := by omega
        go_wp2
        go_ret2
        have hp2 : (cn lo', cn hi') = loneN ds (lst ds lo) 40 (cn lo, cn hi) := hp
        refine ⟨lo', by rw [HKc.out]; rfl, ?_, hb.out⟩
        show cn _ = _
        rw [loneC_ok HKc.out, ← hp2]
end Go.Proofs.YtaodpopghacmaaaDoor
