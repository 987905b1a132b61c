/-
  'CrossingsOf' of both sides.
-/
import Derived.Test.YtaodpopghacmaaaDoorLnf
import Derived.Test.YtaodpopghacmaaaDoorLnh
namespace Go.Proofs.YtaodpopghacmaaaDoor
open Go.RowKit Go.ChangeShapes Go.WideShapes Go.Deep
attribute [local go_sem ↓] Go.wp_at_zero Go.wp_at_succ
set_option linter.unusedVariables false
set_option linter.unusedSimpArgs false
set_option maxRecDepth 100000
/-- How often the signs differ among the numbers 0 to k of F. -/
def crossN (F : Nat → Nat) : Nat → Nat
  | 0 => 0
  | k + 1 => crossN F k + if apB (F k) (F (k + 1)) then 1 else 0
def plAll (F : Nat → Nat) (n : Nat) : Bool := (List.range n).all fun k => plB (F k)
theorem plAll_succ (F : Nat → Nat) (n : Nat) : plAll F (n + 1) = (plAll F n && plB (F n)) := by
  unfold plAll
  rw [List.range_succ, List.all_append]
  simp
theorem plAll_bad {F : Nat → Nat} {n k : Nat} (hk : k < n) (h : plB (F k) = false) : plAll F n = false := List.all_eq_false.2 ⟨k, List.mem_range.2 hk, by simp [h]⟩
def codeX (ds : List Dc) (q : Nat) : Int := if codeL ds q = 0 then (if plAll (swC ds q) ds.length then 0 else 4) else codeL ds q
def cntX (ds : List Dc) (q : Nat) : Int := if codeX ds q = 0 then (crossN (swC ds q) (ds.length - 1) : Int) else 0
theorem crossN_le (F : Nat → Nat) : ∀ k, crossN F k ≤ k
  | 0 => Nat.le_refl _
  | k + 1 => by
    have := crossN_le F k
    unfold crossN
    split <;> omega
theorem all_of_map {F : Nat → Nat} {hs : List Nat} {n : Nat} (h : hs.map cn = (List.range n).map F) : hs.all plB = plAll F n := by
  have hl : hs.length = n := by have := congrArg List.length h; simpa using this
  have e : ∀ x, plB (cn x) = plB x := fun x => plB_cn (cn_cn x)
  have h2 : (hs.map cn).all plB = ((List.range n).map F).all plB := by rw [h]
  rw [List.all_map, List.all_map] at h2
  unfold plAll
  rw [show (hs.all plB) = hs.all (plB ∘ cn) from by congr 1; funext x; exact (e x).symm, h2]
  rfl
set_option maxHeartbeats 4000000 in
theorem specCross_any (A : Option Addr) (n c : Nat) (ds : List Dc) (q : Nat) (w : World) (hl : ds.length = n) (hn : n ≤ 1048576) (hT : Dc.L w w.heap.size A ds) :
    Calls Tryd.prog 10 #[.slice A n c, .float .f32 q] w (RV (.tuple #[.int .i64 (cntX ds q), .int .i64 (codeX ds q)]) w) := by
  have hv := Lib.hid (l07Asked_any A n c ds q w hl hn hT)
  obtain ⟨K, hK⟩ : ∃ K, codeL ds q = K := ⟨_, rfl⟩
  rw [hK] at hv
  have HK := Lib.hid hK
  unfold cntX codeX
  rw [hK]
  have Hl := Lib.hid hl; have HT := Lib.hid hT
  clear hK hl hT
  by_cases h0 : K = 0
  · subst h0
    rw [if_pos rfl, Hl.out]
    have h2 : 2 ≤ n := by have := okLine_len (codeL_ok HK.out).1; have := Hl.out; omega
    obtain ⟨C, hC⟩ : ∃ C : Int, (if (if plAll (swC ds q) n = true then (0 : Int) else 4) = 0 then (crossN (swC ds q) (n - 1) : Int) else 0) = C := ⟨_, rfl⟩
    obtain ⟨L, hL⟩ : ∃ L : Int, (if plAll (swC ds q) n = true then (0 : Int) else 4) = L := ⟨_, rfl⟩
    rw [hL] at hC
    rw [hL, hC]
    have F1 := Lib.hid (fun h : plAll (swC ds q) n = true => show C = crossN (swC ds q) (n - 1) ∧ L = 0 by rw [← hC, ← hL, if_pos h, if_pos rfl]; exact ⟨rfl, rfl⟩)
    have F2 := Lib.hid (fun h : plAll (swC ds q) n = false => show C = 0 ∧ L = 4 by rw [← hC, ← hL, h]; exact ⟨rfl, rfl⟩)
    clear hC hL
    go_enter Tryd.func10, Tryd.ntmps10
    go_wp2_with fail
    refine hv.out.mono ?_
    rintro e w1 ⟨rfl, b1⟩
    have B1 := Lib.hid b1
    have hT1 := Lib.hid (HT.out.keep b1)
    clear b1
    go_wp2_with fail
    refine (specAnswer_any A n c ds q _ Hl.out (by omega) hn hT1.out).mono ?_
    rintro e w2 ⟨v, u, ss, ts, rfl, o1, o2, ap, hs, ht, b2⟩
    have hsl : ss.length = n := by have := congrArg List.length hs; simpa using this
    rw [hsl] at o1
    obtain ⟨g, cp, rfl, hg⟩ := row_form o1 (by omega)
    have O1 := Lib.hid o1; have HS := Lib.hid hs
    have B2 : Hid (Below w.heap.size w w2) := b_then B1.out b2
    clear o1 o2 ap hs ht b2 hg
    go_wp2_with fail
    go_loopw [9, 10] (fun c9 i wr => ∃ k : Nat, k ≤ n ∧ i = .int .i64 k ∧ c9 = .int .i64 (crossN (swC ds q) (k - 1)) ∧ Hid (plAll (swC ds q) k = true) ∧ Hid (Below w2.heap.size w2 wr)) (fun _ i _ => n - (intOf i).toNat)
    case atStart => exact ⟨0, Nat.zero_le _, rfl, rfl, rfl, Below.refl _ _⟩
    case round =>
      obtain ⟨k, hk, rfl, rfl, hp, hb⟩ := hrel
      have Bw : Hid (Below w.heap.size w wr) := b_then B2.out hb.out
      have hO := Lib.hid (own_below O1.out hb.out)
      by_cases hlt : k < n
      · obtain ⟨x, hx⟩ : ∃ x, ss[k]? = some x := ⟨_, List.getElem?_eq_getElem (by omega)⟩
        have c0 : wr.cell? ⟨g, k, none⟩ = some (.float .f32 x) := (hO.out.cellAt k (by omega)).trans (by rw [List.getElem?_map, hx]; rfl)
        have Hx := Lib.hid (map_at HS.out hx)
        have hxp : plB x = plB (swC ds q k) := by rw [← Hx.out]; exact (plB_cn (cn_cn x)).symm
        obtain ⟨t, ht⟩ : ∃ t, plB x = t := ⟨_, rfl⟩
        have hv2 := Lib.hid (fun w => l01Plain_any x w)
        rw [ht] at hv2
        have hsucc := plAll_succ (swC ds q) k
        rw [hp.out, Bool.true_and, ← hxp, ht] at hsucc
        have HS2 := Lib.hid hsucc
        have Hbad := Lib.hid (fun h : t = false => F2.out (plAll_bad hlt (by rw [← hxp, ht]; exact h)))
        have hle := crossN_le (swC ds q) (k - 1)
        clear hsucc hxp ht hx
        cases t
        · obtain ⟨e1, e2⟩ := Hbad.out (by trivial)
          have E1 := Lib.hid e1; have E2 := Lib.hid e2
          clear e1 e2
          go_wp2_with (go_at_call 27; refine (hv2.out _).mono ?_; rintro e w3 ⟨rfl, rfl⟩)
          go_ret2
          exact ⟨by rw [E1.out, E2.out]; rfl, Bw.out⟩
        · cases k with
          | zero =>
            go_wp2_with (go_at_call 27; refine (hv2.out _).mono ?_; rintro e w3 ⟨rfl, rfl⟩)
            go_quiet (fail)
            go_wp2
            go_roundw
            case rel => exact ⟨0 + 1, by omega, by go_num, rfl, HS2, b_drewN hb.out _⟩
            case measure => simp [intOf]; omega
          | succ m =>
            obtain ⟨y, hy⟩ : ∃ y, ss[m]? = some y := ⟨_, List.getElem?_eq_getElem (by omega)⟩
            have d0 : wr.cell? ⟨g, m, none⟩ = some (.float .f32 y) := (hO.out.cellAt m (by omega)).trans (by rw [List.getElem?_map, hy]; rfl)
            have Hy := Lib.hid (map_at HS.out hy)
            have hap : apB y x = apB (swC ds q m) (swC ds q (m + 1)) := by rw [← Hx.out, ← Hy.out]; exact (apB_cn (cn_cn y) (cn_cn x)).symm
            obtain ⟨t, ht⟩ : ∃ t, apB y x = t := ⟨_, rfl⟩
            have hv3 := Lib.hid (fun w => l07Apart_any y x w)
            rw [ht] at hv3
            have hcr : crossN (swC ds q) (m + 1) = crossN (swC ds q) m + if t then 1 else 0 := by rw [crossN, ← hap, ht]
            have HCR := Lib.hid hcr
            have u1 : ((m + 1 : Nat) : Int) > 0 := by omega
            have u2 : IntKind.i64.wrap (m : Int) = (m : Int) := IntWalk.i64_in _ (by omega)
            have u3 : (m : Int) < (n : Int) := by omega
            have u4 : (m : Int) + 1 < (n : Int) := by omega
            have u5 : (0 : Int) ≤ (m : Int) + 1 := by omega
            rw [show m + 1 - 1 = m from rfl] at hle ⊢
            have g2 : (0 : Int) ≤ (m : Int) := by omega
            have e1 : ((m : Int)).toNat = m := by omega
            clear hy ht hap hcr
            cases t
            · go_wp2_with (go_at_call 27; refine (hv2.out _).mono ?_; rintro e w3 ⟨rfl, rfl⟩)
              go_quiet ((go_at_call 28; exact Calls.quiet_of_same ((hv3.out _).mono fun _ _ h => ⟨h.1, h.2.symm⟩)))
              generalize hcn : crossN (swC ds q) m = N at *
              go_wp2
              go_roundw
              case rel => exact ⟨m + 1 + 1, by omega, by go_num, by rw [show m + 1 + 1 - 1 = m + 1 from rfl, HCR.out]; rfl, HS2, b_drewN hb.out _⟩
              case measure => simp [intOf]; omega
            · go_wp2_with (go_at_call 27; refine (hv2.out _).mono ?_; rintro e w3 ⟨rfl, rfl⟩)
              go_quiet ((go_at_call 28; exact Calls.quiet_of_same ((hv3.out _).mono fun _ _ h => ⟨h.1, h.2.symm⟩)))
              generalize hcn : crossN (swC ds q) m = N at *
              go_wp2
              go_roundw
              case rel => exact ⟨m + 1 + 1, by omega, by go_num, by rw [show m + 1 + 1 - 1 = m + 1 from rfl, HCR.out]; go_num, HS2, b_drewN hb.out _⟩
              case measure => simp [intOf]; omega
      · obtain rfl : k = n := by omega
        obtain ⟨e1, e2⟩ := F1.out hp.out
        have E1 := Lib.hid e1; have E2 := Lib.hid e2
        clear e1 e2
        go_wp2
        go_ret2
        exact ⟨by rw [E1.out, E2.out]; rfl, Bw.out⟩
  · rw [if_neg h0, if_neg h0]
    go_enter Tryd.func10, Tryd.ntmps10
    go_wp2_with fail
    refine hv.out.mono ?_
    rintro e w1 ⟨rfl, b1⟩
    have B1 := Lib.hid b1
    clear b1
    go_wp2
    go_ret2
    exact ⟨rfl, B1.out⟩
end Go.Proofs.YtaodpopghacmaaaDoor
