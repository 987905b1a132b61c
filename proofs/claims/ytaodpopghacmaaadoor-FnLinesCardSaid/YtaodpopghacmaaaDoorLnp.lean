/-
  'LoneSpeed', the model's.
-/
import Derived.Test.YtaodpopghacmaaaDoorLno
namespace Go.Proofs.YtaodpopghacmaaaDoor
open Go.RowKit Go.ChangeShapes Go.WideShapes Go.Deep
attribute [local go_sem ↓] Go.wp_at_zero Go.wp_at_succ
set_option linter.unusedVariables false
set_option linter.unusedSimpArgs false
set_option maxRecDepth 100000
set_option maxHeartbeats 4000000 in
theorem specLone_bad (A : Option Addr) (n c : Nat) (ds : List Dc) (lo hi : Nat) (w : World) (hl : ds.length = n) (hn : n ≤ 1048576) (hT : Dc.L w w.heap.size A ds) (hk : okLine ds = false) :
    Calls Tryd.prog 14 #[.slice A n c, .float .f32 lo, .float .f32 hi] w (RFCz 1 w) := by
  have hv := l07Line_any A n c ds w hl hn hT
  rw [hk] at hv
  have HV := Lib.hid hv
  clear hv hT hk hl
  go_enter Tryd.func14, Tryd.ntmps14
  go_wp2_with fail
  refine HV.out.mono ?_
  rintro e w1 ⟨rfl, b1⟩
  have B1 := Lib.hid b1
  clear b1
  go_wp2
  go_ret2
  exact ⟨rfl, B1.out⟩
set_option maxHeartbeats 4000000 in
theorem specLone_range (A : Option Addr) (n c : Nat) (ds : List Dc) (lo hi : Nat) (w : World) (hl : ds.length = n) (hn : n ≤ 1048576) (hT : Dc.L w w.heap.size A ds) (hk : okLine ds = true) (hr : inR lo hi = false) :
    Calls Tryd.prog 14 #[.slice A n c, .float .f32 lo, .float .f32 hi] w (RFCz 2 w) := by
  have hv := l07Line_any A n c ds w hl hn hT
  rw [hk] at hv
  have HV := Lib.hid hv
  have f1 := l07Fast_any lo
  have f2 := l07Fast_any hi
  have hge : psB lo = true → psB hi = true → oGe lo hi = true := fun h1 h2 => by
    rw [ge_lt h1 h2]
    unfold inR at hr
    rw [h1, h2] at hr
    simp at hr
    rw [hr]
    rfl
  obtain ⟨a, ha⟩ : ∃ a, psB lo = a := ⟨_, rfl⟩
  obtain ⟨b, hb⟩ : ∃ a, psB hi = a := ⟨_, rfl⟩
  rw [ha] at f1 hge
  rw [hb] at f2 hge
  have P1 := Lib.hid f1; have P2 := Lib.hid f2
  have HG := Lib.hid hge
  clear hv hT hk hl f1 f2 hge hr ha hb
  cases a
  · go_enter Tryd.func14, Tryd.ntmps14
    go_wp2_with (first | (go_at_call 33; refine HV.out.mono ?_; rintro e w1 ⟨rfl, b1⟩; have B1 := Lib.hid b1; clear b1) | (go_at_call 34; refine (P1.out _).mono ?_; rintro e w2 ⟨rfl, rfl⟩))
    go_ret2
    exact ⟨rfl, B1.out⟩
  · cases b
    · go_enter Tryd.func14, Tryd.ntmps14
      go_wp2_with fail
      refine HV.out.mono ?_
      rintro e w1 ⟨rfl, b1⟩
      have B1 := Lib.hid b1
      clear b1
      go_wp2_with fail
      refine (P1.out _).mono ?_
      rintro e w2 ⟨rfl, rfl⟩
      go_wp2_with fail
      refine (P2.out _).mono ?_
      rintro e w2 ⟨rfl, rfl⟩
      go_wp2
      go_ret2
      exact ⟨rfl, B1.out⟩
    · have hg := HG.out rfl rfl
      unfold oGe at hg
      go_enter Tryd.func14, Tryd.ntmps14
      go_wp2_with fail
      refine HV.out.mono ?_
      rintro e w1 ⟨rfl, b1⟩
      have B1 := Lib.hid b1
      clear b1
      go_wp2_with fail
      refine (P1.out _).mono ?_
      rintro e w2 ⟨rfl, rfl⟩
      go_wp2_with fail
      refine (P2.out _).mono ?_
      rintro e w2 ⟨rfl, rfl⟩
      go_wp2
      go_ret2
      exact ⟨rfl, B1.out⟩
set_option maxHeartbeats 4000000 in
theorem specLone_yes (A : Option Addr) (n c : Nat) (ds : List Dc) (lo hi : Nat) (w : World) (hl : ds.length = n) (hn : n ≤ 1048576) (hT : Dc.L w w.heap.size A ds) (hk : okLine ds = true) (hr : inR lo hi = true) :
    Calls Tryd.prog 14 #[.slice A n c, .float .f32 lo, .float .f32 hi] w (RFC (loneC ds lo hi) (codeO ds lo hi) w) := by
  obtain ⟨R, N, hR, hC⟩ := ops_fun Tryd.prog 26; have ra := hR .add rfl; have rs := hR .sub rfl; have rm := hR .mul rfl; have rq := hR .quo rfl; have HC := Lib.hid hC; clear hC hR
  have hv := l07Line_any A n c ds w hl hn hT
  rw [hk] at hv
  have HV := Lib.hid hv
  obtain ⟨h1, h2, h3⟩ : psB lo = true ∧ psB hi = true ∧ oLt lo hi = true := by
    unfold inR at hr
    simp at hr
    exact hr
  have hg : oGe lo hi = false := by rw [ge_lt h1 h2, h3]; rfl
  unfold oGe at hg
  have f1 := l07Fast_any lo
  have f2 := l07Fast_any hi
  rw [h1] at f1
  rw [h2] at f2
  have P1 := Lib.hid f1; have P2 := Lib.hid f2
  have h2n := okLine_len hk
  rw [hl] at h2n
  obtain ⟨h2n, h10⟩ := h2n
  have Hl := Lib.hid hl; have HT := Lib.hid hT
  have HK := Lib.hid hk; have HR := Lib.hid hr
  clear hv hT hl hk hr f1 f2 h1 h2 h3
  go_enter Tryd.func14, Tryd.ntmps14
  go_wp2_with fail
  refine HV.out.mono ?_
  rintro e w2 ⟨rfl, b1⟩
  have B2 := Lib.hid b1
  clear b1
  go_wp2_with fail
  refine (P1.out _).mono ?_
  rintro e w1 ⟨rfl, rfl⟩
  go_wp2_with fail
  refine (P2.out _).mono ?_
  rintro e w1 ⟨rfl, rfl⟩
  go_wp2_with fail
  refine (specLast_any A n c ds lo _ Hl.out (by omega) hn (HT.out.keep B2.out)).mono ?_
  rintro e w3 ⟨S, rfl, hS, b3⟩
  have B3 : Hid (Below w.heap.size w w3) := b_then B2.out b3
  have HS : Hid (cn S = lst ds lo) := hS
  clear b3 hS
  go_wp2_with fail
  refine (specLast_any A n c ds hi _ Hl.out (by omega) hn (HT.out.keep B3.out)).mono ?_
  rintro e w4 ⟨Hh, rfl, hH, b4⟩
  have B4 : Hid (Below w.heap.size w w4) := b_then B3.out b4
  have hap : apB S Hh = apB (lst ds lo) (lst ds hi) := apB_cn (by rw [HS.out, cn_lst]) (by rw [show cn Hh = lst ds hi from hH, cn_lst])
  obtain ⟨t, ht⟩ : ∃ t, apB S Hh = t := ⟨_, rfl⟩
  have hop := Lib.hid (fun w => l07Apart_any S Hh w)
  rw [ht] at hop
  rw [ht] at hap
  have HAP := Lib.hid hap
  clear b4 hH hap ht
  cases t
  · have hK := codeO_none HK.out HR.out HAP.out.symm
    have HKc := Lib.hid hK
    clear hK
    go_wp2_with fail
    refine (hop.out _).mono ?_
    rintro e w5 ⟨rfl, rfl⟩
    go_wp2
    go_ret2
    exact ⟨0, by rw [HKc.out]; rfl, (loneC_no HKc.out (by decide)).symm, B4.out⟩
  · have hK := codeO_ok HK.out HR.out HAP.out.symm
    have HKc := Lib.hid hK
    clear hK hg
    go_wp2_with fail
    refine (hop.out _).mono ?_
    rintro e w5 ⟨rfl, rfl⟩
    go_wp2_with fail
    go_loopw [1, 2, 8, 9, 10, 11] (fun u v i m a b wr => ∃ (k lo' hi' : Nat), k ≤ 40 ∧ i = .int .i64 k ∧ u = .float .f32 lo' ∧ v = .float .f32 hi' ∧ Hid ((cn lo', cn hi') = loneN ds (lst ds lo) k (cn lo, cn hi)) ∧ Hid (Sg (lst ds lo') (lst ds lo)) ∧ Hid (Below w.heap.size w wr)) (fun _ _ i _ _ _ _ => 40 - (intOf i).toNat)
    case atStart => exact ⟨0, lo, hi, Nat.zero_le _, rfl, rfl, rfl, (by show _ = _; rfl), ⟨rfl, rfl⟩, B4⟩
    case round =>
      obtain ⟨k, lo', hi', hk, rfl, rfl, rfl, hp, hsg, hb⟩ := hrel
      by_cases hlt : k < 40
      · have hmid : Hid (∀ w1 w2, cn (R .quo (R .add lo' hi' w1) 1073741824 w2) = f2 .quo (f2 .add (cn lo') (cn hi')) (cn 1073741824)) := fun w1 w2 => by rw [HC.out .quo rfl, HC.out .add rfl]
        go_wp2_with fail
        refine (specLast_any A n c ds lo' _ Hl.out (by omega) hn (HT.out.keep (b_drewN hb.out _))).mono ?_
        rintro e w5 ⟨a, rfl, ha, b5⟩
        have B5 : Hid (Below w.heap.size w w5) := b_then (b_drewN hb.out _) b5
        have HA : Hid (cn a = lst ds lo') := ha
        clear b5 ha
        go_wp2_with fail
        refine (specLast_any A n c ds _ _ Hl.out (by omega) hn (HT.out.keep B5.out)).mono ?_
        rintro e w6 ⟨r, rfl, hr, b6⟩
        have B6 : Hid (Below w.heap.size w w6) := b_then B5.out b6
        have hst := lone_step (S := lst ds lo) (p := (cn lo, cn hi)) (k := k) hp (hmid.out _ _) hr
        have hak : akB r (lst ds lo) = akB r a := by rw [← ak_sg hsg.out]; exact akB_cn rfl (by rw [HA.out, cn_lst])
        rw [hak] at hst
        have hsa : Hid (akB r a = true → Sg r a) := fun h => sg_of_ak h
        have hra : Hid (cn r = lst ds (R .quo (R .add lo' hi' wr) 1073741824 (wr.drewN (N .add lo' hi' wr)))) := hr
        have hak2 : akB r a = ((oLt a 0 && oLt r 0) || (oGt a 0 && oGt r 0)) := by unfold akB; rw [Bool.and_comm (oLt r 0), Bool.and_comm (oGt r 0)]
        obtain ⟨t, ht⟩ : ∃ t, akB r a = t := ⟨_, rfl⟩
        obtain ⟨x1, hx1⟩ : ∃ t, oLt a 0 = t := ⟨_, rfl⟩
        obtain ⟨x2, hx2⟩ : ∃ t, oLt r 0 = t := ⟨_, rfl⟩
        obtain ⟨x3, hx3⟩ : ∃ t, oGt a 0 = t := ⟨_, rfl⟩
        obtain ⟨x4, hx4⟩ : ∃ t, oGt r 0 = t := ⟨_, rfl⟩
        rw [hx1, hx2, hx3, hx4, ht] at hak2
        rw [ht] at hst
        have Hst := Lib.hid hst
        generalize R .quo (R .add lo' hi' wr) 1073741824 (wr.drewN (N .add lo' hi' wr)) = M at *
        have hSg : Hid (t = true → Sg (lst ds M) (lst ds lo)) := fun h => by
          have h1 : Sg r a := hsa.out (ht.trans h)
          have h2 : Sg (lst ds M) (lst ds lo') := Sg.cn h1 (by rw [cn_lst]; exact hra.out) (by rw [cn_lst]; exact HA.out)
          exact ⟨h2.1.trans hsg.out.1, h2.2.trans hsg.out.2⟩
        unfold oLt at hx1 hx2
        unfold oGt at hx3 hx4
        clear b6 hr hst hak hp ht
        have Hak2 := Lib.hid hak2
        clear hak2 hsa hra HA
        cases x1 <;> cases x2 <;> cases x3 <;> cases x4
        all_goals
          first
            | (have ht0 := Lib.hid (show t = false from Hak2.out); rw [ht0.out] at Hst)
            | (have ht0 := Lib.hid (show t = true from Hak2.out); have hs1 := Lib.hid (hSg.out ht0.out); rw [ht0.out] at Hst)
          clear hSg Hak2
          go_wp2
          go_roundw
          case rel => exact ⟨k + 1, _, _, by omega, by go_num, rfl, rfl, Hst.out.symm, by first | exact hs1 | exact hsg, B6⟩
          case measure => simp [intOf]; omega
      · obtain rfl : k = 40 := by omega
        go_wp2
        go_ret2
        have hp2 : (cn lo', cn hi') = loneN ds (lst ds lo) 40 (cn lo, cn hi) := hp
        refine ⟨lo', by rw [HKc.out]; rfl, ?_, hb.out⟩
        show cn _ = _
        rw [loneC_ok HKc.out, ← hp2]
end Go.Proofs.YtaodpopghacmaaaDoor
