/-
  ShareTorque: both sides.
-/
import Derived.Test.YtagjkagfnfonpabHv
import Derived.Test.YtagjkagfnfonpabSe
import Derived.Test.YtagjkagfnfonpabStoneS
import Derived.Test.YtagjkagfnfonpabFs2
namespace Go.Proofs.Ytagjkagfnfonpab
open Go.RowKit Go.ChangeShapes Go.WideShapes Go.Deep
attribute [local go_sem ↓] Go.wp_at_zero Go.wp_at_succ
set_option linter.unusedVariables false
set_option linter.unusedSimpArgs false
set_option maxRecDepth 100000
def allS (ps : List Sn) : Bool := ps.all okS
theorem allS_stop {ps : List Sn} {k : Nat} {S : Sn} (h : ps[k]? = some S) (hb : okS S = false) : allS ps = false := by
  unfold allS
  rw [List.all_eq_false]
  exact ⟨S, List.mem_of_getElem? h, by rw [hb]; decide⟩
theorem allS_done {ps : List Sn} (h : ∀ (k : Nat) S, ps[k]? = some S → okS S = true) : allS ps = true := by
  unfold allS
  rw [List.all_eq_true]
  intro S hS
  obtain ⟨k, hk⟩ := List.mem_iff_getElem?.1 hS
  exact h k S hk
theorem takeS_snoc {cs : List Nat} {fs : List Nat} {k g : Nat} (h : fs.map cn = cs.take k) (hg : cs[k]? = some (cn g)) : (fs ++ [g]).map cn = cs.take (k + 1) := by
  rw [List.take_add_one, hg, List.map_append, h]
  rfl
def shK (ps : List Sn) (t f : Nat) : Int := if allS ps then (if psB t && rtB f then (if 60 < ps.length then 3 else if ps.length = 0 then 6 else if oGt (sumLd ps 0 f) t then 6 else 0) else 2) else 1
def shL (ps : List Sn) (t f : Nat) : List Nat := ps.map (fun S => loadC S (steadyC ps t f 40) f)
def shT (ps : List Sn) (t f : Nat) : List Nat := if shK ps t f = 0 then shL ps t f else []
theorem sh_err {ps : List Sn} {t f : Nat} {k : Int} (h : shK ps t f = k) (h0 : k ≠ 0) : shT ps t f = [] := by
  unfold shT
  rw [h, if_neg h0]
theorem shT_le (ps : List Sn) (t f : Nat) : (shT ps t f).length ≤ 60 := by
  unfold shT
  split
  · rename_i h
    unfold shL
    rw [List.length_map]
    unfold shK at h
    split at h
    · split at h
      · split at h
        · cases h
        · omega
      · cases h
    · cases h
  · simp
theorem shL_at {ps : List Sn} {k : Nat} {S : Sn} (h : ps[k]? = some S) (t f : Nat) : (shL ps t f)[k]? = some (loadC S (steadyC ps t f 40) f) := by
  unfold shL
  rw [List.getElem?_map, h]
  rfl
theorem cnSteady {ps : List Sn} {t f r : Nat} (h : CN r (steadyC ps t f 40)) : cn r = cn (steadyC ps t f 40) := by
  have h' : cn r = steadyC ps t f 40 := h
  rw [← h', cn_cn]
set_option maxRecDepth 100000 in
set_option maxHeartbeats 4000000 in
theorem specShare_any (A : Option Addr) (n c : Nat) (ps : List Sn) (t f : Nat) (w : World) (hl : ps.length = n) (hn : n ≤ 1048576) (hT : Sn.L w w.heap.size A ps) :
    Calls Try.prog 18 #[.slice A n c, .float .f32 t, .float .f32 f] w (FLC (shT ps t f) (shK ps t f) w) := by
  obtain ⟨i0, hi, hz0, hz1, hz2⟩ := info_parts infoF32
  have Hi := Lib.hid hi
  have Hl := Lib.hid hl; clear hl
  have HT := Lib.hid hT; clear hT
  go_enter Try.func18, Try.ntmps18
  go_wp2
  have hE : (w.alloc (.cells #[] 22)).ownsRow w.heap.size 22 1 (.slice (some ⟨w.heap.size, 0, none⟩) 0 0) 0 ([].map (Value.float .f32)) := own_empty _ _ _ _ (Nat.le_refl _)
  have hB : Below w.heap.size w (w.alloc (.cells #[] 22)) := b_alloc (Below.refl _ _) _
  have HE := Lib.hid hE; have HB := Lib.hid hB
  clear hE hB
  go_loopw [9] (fun i wr => ∃ k : Nat, k ≤ n ∧ i = .int .i64 k ∧ Below w.heap.size w wr ∧ wr.ownsRow w.heap.size 22 1 (.slice (some ⟨w.heap.size, 0, none⟩) 0 0) 0 ([].map (Value.float .f32)) ∧ ∀ j S, j < k → ps[j]? = some S → okS S = true) (fun i _ => n - (intOf i).toNat)
  case atStart => exact ⟨0, Nat.zero_le _, rfl, HB.out, HE.out, fun j B h => absurd h (by omega)⟩
  case round =>
    obtain ⟨k, hk, rfl, hb, hown, hz⟩ := hrel
    have Hb := Lib.hid hb; clear hb
    have Hz := Lib.hid hz; clear hz
    have HO := Lib.hid hown; clear hown
    by_cases hlt : k < n
    · have hkl : k < ps.length := by have := Hl.out; omega
      obtain ⟨b, off, rfl, hbs, hc⟩ := HT.out (by omega)
      obtain ⟨S, hS⟩ : ∃ S, ps[k]? = some S := ⟨_, List.getElem?_eq_getElem hkl⟩
      obtain ⟨c0, c1, c2, c3⟩ := Sn.at (rangeAt_of_block (hc k S hS) (Hb.out.block b hbs))
      have HS := Lib.hid hS
      clear hc hkl hS
      rcases Bool.eq_false_or_eq_true (okS S) with ho | ho
      · have Ho := Lib.hid ho
        go_wp2_with fail
        refine (l04Ok_any S _).mono ?_
        rintro e w1 ⟨rfl, b1⟩
        rw [Ho.out]
        have Hb1 : Hid (Below w.heap.size w w1) := b_then Hb.out b1
        have HO1 : Hid (w1.ownsRow w.heap.size 22 1 (.slice (some ⟨w.heap.size, 0, none⟩) 0 0) 0 ([].map (Value.float .f32))) := own_below HO.out b1
        have Hz1 : Hid (∀ j S, j < k + 1 → ps[j]? = some S → okS S = true) := fun j C hj hC => by
          rcases (by omega : j < k ∨ j = k) with h | rfl
          · exact Hz.out j C h hC
          · have := HS.out; rw [hC] at this; cases this; exact Ho.out
        clear b1 c0 c1 c2 c3 ho
        go_wp2
        go_roundw
        case rel => exact ⟨k + 1, by omega, by go_num, Hb1.out, HO1.out, Hz1.out⟩
        case measure => simp [intOf]; omega
      · have Ho := Lib.hid ho
        go_wp2_with fail
        refine (l04Ok_any S _).mono ?_
        rintro e w1 ⟨rfl, b1⟩
        rw [Ho.out]
        have Hb1 : Hid (Below w.heap.size w w1) := b_then Hb.out b1
        have HO1 : Hid (w1.ownsRow w.heap.size 22 1 (.slice (some ⟨w.heap.size, 0, none⟩) 0 0) 0 ([].map (Value.float .f32))) := own_below HO.out b1
        have e1 : shK ps t f = 1 := by unfold shK; rw [allS_stop HS.out Ho.out]; rfl
        have E1 := Lib.hid e1
        clear b1 c0 c1 c2 c3 ho e1
        go_wp2
        go_ret2
        rw [sh_err E1.out (by decide), E1.out]
        exact flc_of_row (fs := []) HO1.out Hb1.out
    · have hkn : k = n := by omega
      subst hkn
      have ha : allS ps = true := allS_done (ps := ps) (fun j B hj => Hz.out j B (by have := (List.getElem?_eq_some_iff.1 hj).1; have := Hl.out; omega) hj)
      have Ha := Lib.hid ha; clear ha
      clear Hz
      have hP := fun w => l03Amount_any t w
      have hQ := fun w => l04Rate_any f w
      rcases Bool.eq_false_or_eq_true (psB t) with p1 | p1
      · rw [p1] at hP
        have HP := Lib.hid hP; clear hP
        rcases Bool.eq_false_or_eq_true (rtB f) with p2 | p2
        · rw [p2] at hQ
          have HQ := Lib.hid hQ; clear hQ
          have HPP : Hid ((psB t && rtB f) = true) := by show _ = _; rw [p1, p2]; rfl
          clear p1 p2
          by_cases h60 : 60 < k
          · have z1 : (60 : Int) < (k : Int) := by omega
            have e1 : shK ps t f = 3 := by unfold shK; rw [Ha.out, HPP.out, Hl.out]; simp [h60]
            have E1 := Lib.hid e1; clear e1
            go_wp2_with (first | (go_at_call 39; refine (HP.out _).mono ?_; rintro e w1 ⟨rfl, rfl⟩) | (go_at_call 40; refine (HQ.out _).mono ?_; rintro e w1 ⟨rfl, rfl⟩))
            go_ret2
            rw [sh_err E1.out (by decide), E1.out]
            exact flc_of_row (fs := []) HO.out Hb.out
          · have z1 : ¬ (60 : Int) < (k : Int) := by omega
            rcases Bool.eq_false_or_eq_true (oGt (sumLd ps 0 f) t) with g | g
            · have e1 : shK ps t f = 6 := by unfold shK; rw [Ha.out, HPP.out, Hl.out, g]; simp [h60]
              have E1 := Lib.hid e1; have G := Lib.hid g; clear e1 g
              go_wp2_with (first | (go_at_call 39; refine (HP.out _).mono ?_; rintro e w1 ⟨rfl, rfl⟩) | (go_at_call 40; refine (HQ.out _).mono ?_; rintro e w1 ⟨rfl, rfl⟩))
              refine (specSteady_any A k c ps t f 40 _ Hl.out hn (by omega) (HT.out.keep Hb.out)).mono ?_
              rw [G.out]
              rintro e w1 ⟨r, rfl, hr, b1⟩
              have Hb1 : Hid (Below w.heap.size w w1) := b_then Hb.out b1
              have HO1 : Hid (w1.ownsRow w.heap.size 22 1 (.slice (some ⟨w.heap.size, 0, none⟩) 0 0) 0 ([].map (Value.float .f32))) := own_below HO.out b1
              clear b1 hr
              go_wp2
              go_ret2
              rw [sh_err E1.out (by decide), E1.out]
              exact flc_of_row (fs := []) HO1.out Hb1.out
            · have G := Lib.hid g; clear g
              have hV : steadyV ps t f 40 = steadyC ps t f 40 := by unfold steadyV; rw [G.out]; rfl
              have HV := Lib.hid hV; clear hV
              go_wp2_with (first | (go_at_call 39; refine (HP.out _).mono ?_; rintro e w1 ⟨rfl, rfl⟩) | (go_at_call 40; refine (HQ.out _).mono ?_; rintro e w1 ⟨rfl, rfl⟩))
              refine (specSteady_any A k c ps t f 40 _ Hl.out hn (by omega) (HT.out.keep Hb.out)).mono ?_
              rw [G.out, HV.out]
              rintro e w1 ⟨r, rfl, hr, b1⟩
              have Hb1 : Hid (Below w.heap.size w w1) := b_then Hb.out b1
              have HO1 : Hid (w1.ownsRow w.heap.size 22 1 (.slice (some ⟨w.heap.size, 0, none⟩) 0 0) 0 ([].map (Value.float .f32))) := own_below HO.out b1
              have HR := Lib.hid hr
              clear b1 hr
              by_cases h0 : k = 0
              · have e1 : shK ps t f = 6 := by unfold shK; rw [Ha.out, HPP.out, Hl.out]; simp [h0]
                have E1 := Lib.hid e1; clear e1
                subst h0
                go_wp2
                go_ret2
                rw [sh_err E1.out (by decide), E1.out]
                exact flc_of_row (fs := []) HO1.out Hb1.out
              · have e1 : shK ps t f = 0 := by unfold shK; rw [Ha.out, HPP.out, Hl.out, G.out]; simp [h60, h0]
                have e2 : shT ps t f = shL ps t f := by unfold shT; rw [e1]; rfl
                have E1 := Lib.hid e1; have E2 := Lib.hid e2; clear e1 e2
                have z0 : ((k : Int) == 0) = false := by simp; omega
                go_wp2
                go_loopw [8, 12] (fun v i wr => ∃ (j : Nat) (fs : List Nat), j ≤ k ∧ i = .int .i64 j ∧ wr.ownsRow w.heap.size 22 1 v j (fs.map (Value.float .f32)) ∧ fs.map cn = (shL ps t f).take j ∧ fs.length = j ∧ Below w.heap.size w wr) (fun _ i _ => k - (intOf i).toNat)
                case atStart => exact ⟨0, [], Nat.zero_le _, rfl, HO1.out, rfl, rfl, Hb1.out⟩
                case round =>
                  obtain ⟨j, fs, hj, rfl, hown, hcs, hfl, hbb⟩ := hrel
                  have Hown := Lib.hid hown; have Hcs := Lib.hid hcs; have Hfl := Lib.hid hfl; have Hbb := Lib.hid hbb
                  clear hown hcs hfl hbb
                  by_cases hlt : j < k
                  · have hkl : j < ps.length := by have := Hl.out; omega
                    obtain ⟨b, off, rfl, hbs, hc⟩ := HT.out (by omega)
                    obtain ⟨S, hS⟩ : ∃ S, ps[j]? = some S := ⟨_, List.getElem?_eq_getElem hkl⟩
                    obtain ⟨c0, c1, c2, c3⟩ := Sn.at (rangeAt_of_block (hc j S hS) (Hbb.out.block b hbs))
                    have hst := shL_at hS t f
                    have Hst := Lib.hid hst
                    have hba := own_base Hown.out
                    have Hba := Lib.hid hba
                    clear hc hkl hS hst hba z0
                    go_wp2_with (first
                      | (go_at_call 42; refine (specLoad_any S _ _ _).mono ?_; rintro e w5 ⟨x, rfl, hx, b5⟩; have B5 : Hid (Below w.heap.size w w5) := b_then Hbb.out b5; have O5 : Hid (w5.ownsRow w.heap.size 22 1 _ j (fs.map (Value.float .f32))) := own_below Hown.out b5; have Hx := Lib.hid hx; clear hx b5)
                      | (at_builtin; refine wpList_append_own _ rfl _ _ 25 rfl w.heap.size 22 i0 _ 1 4 Try.underlying25 hi hz0 hz1 hz2 rfl (by omega) _ j _ rfl (O5.out.alloc _) _ 1 _ [_] rfl rfl (World.news_of_block (cs := #[_]) (heap_alloc_new _ _)) (by intro u hu; simp at hu; subst hu; rfl) (by unfold maxLen; omega) (by omega) (by have := B5.out.size; simp; omega) ?_; intro v9 w9 hown9 hgrow9 hif9))
                    all_goals
                      have B9 : Hid (Below w.heap.size w w9) := (B5.out.alloc B5.out.size _).grown hgrow9 (by have := B5.out.size; simp; omega) (fun k h => (Hba.out k h).1)
                      have O9 : Hid (w9.ownsRow w.heap.size 22 1 v9 (j + 1) ((fs ++ [x]).map (Value.float .f32))) := by
                        rw [List.map_append]
                        exact hown9
                      have e9 : Hid ((fs ++ [x]).map cn = (shL ps t f).take (j + 1)) := takeS_snoc Hcs.out (by rw [Hst.out, show cn x = loadC S r f from Hx.out, loadC_cn S (cnSteady HR.out) rfl])
                      have l9 : Hid ((fs ++ [x]).length = j + 1) := by rw [List.length_append, Hfl.out]; rfl
                      clear hown9 hgrow9 hif9 c0 c1 c2 c3
                      go_wp2
                      go_roundw
                      case rel => exact ⟨j + 1, fs ++ [x], by omega, by go_num, O9.out, e9.out, l9.out, B9.out⟩
                      case measure => simp [intOf]; omega
                  · obtain rfl : j = k := by omega
                    have hz : fs.map cn = shL ps t f := by
                      have := Hcs.out
                      rwa [List.take_of_length_le (by unfold shL; rw [List.length_map, Hl.out]; exact Nat.le_refl _)] at this
                    have Hz := Lib.hid hz; clear hz
                    go_wp2
                    go_ret2
                    rw [E1.out, E2.out, ← Hz.out]
                    exact flc_of_row Hown.out Hbb.out
        · rw [p2] at hQ
          have HQ := Lib.hid hQ; clear hQ
          have e1 : shK ps t f = 2 := by unfold shK; rw [Ha.out, p1, p2]; rfl
          have E1 := Lib.hid e1
          clear e1 p1 p2
          go_wp2_with (first | (go_at_call 39; refine (HP.out _).mono ?_; rintro e w1 ⟨rfl, rfl⟩) | (go_at_call 40; refine (HQ.out _).mono ?_; rintro e w1 ⟨rfl, rfl⟩))
          go_ret2
          rw [sh_err E1.out (by decide), E1.out]
          exact flc_of_row (fs := []) HO.out Hb.out
      · rw [p1] at hP
        have HP := Lib.hid hP; clear hP hQ
        have e1 : shK ps t f = 2 := by unfold shK; rw [Ha.out, p1]; rfl
        have E1 := Lib.hid e1
        clear e1 p1
        go_wp2_with (first | (go_at_call 39; refine (HP.out _).mono ?_; rintro e w1 ⟨rfl, rfl⟩))
        go_ret2
        rw [sh_err E1.out (by decide), E1.out]
        exact flc_of_row (fs := []) HO.out Hb.out
def shE (ps : List Sn) (t f : Nat) : Int := if allS ps then (if psB t && rtB f then (if 60 < ps.length then 3 else if ps.length = 0 then 6 else 0) else 2) else 1
set_option maxHeartbeats 4000000 in
theorem shareError_any (A : Option Addr) (n c : Nat) (ps : List Sn) (t f : Nat) (w : World) (hl : ps.length = n) (hn : n ≤ 1048576) (hT : Sn.L w w.heap.size A ps) :
    Calls Try.prog 43 #[.slice A n c, .float .f32 t, .float .f32 f] w (RV (.int .i64 (shE ps t f)) w) := by
  have Hl := Lib.hid hl; clear hl
  have HT := Lib.hid hT; clear hT
  go_enter Try.func43, Try.ntmps43
  go_wp2
  go_loopw [11] (fun i wr => ∃ k : Nat, k ≤ n ∧ i = .int .i64 k ∧ Below w.heap.size w wr ∧ ∀ j S, j < k → ps[j]? = some S → okS S = true) (fun i _ => n - (intOf i).toNat)
  case atStart => exact ⟨0, Nat.zero_le _, rfl, Below.refl _ _, fun j B h => absurd h (by omega)⟩
  case round =>
    obtain ⟨k, hk, rfl, hb, hz⟩ := hrel
    have Hb := Lib.hid hb; clear hb
    have Hz := Lib.hid hz; clear hz
    by_cases hlt : k < n
    · have hkl : k < ps.length := by have := Hl.out; omega
      obtain ⟨b, off, rfl, hbs, hc⟩ := HT.out (by omega)
      obtain ⟨S, hS⟩ : ∃ S, ps[k]? = some S := ⟨_, List.getElem?_eq_getElem hkl⟩
      obtain ⟨c0, c1, c2, c3⟩ := Sn.at (rangeAt_of_block (hc k S hS) (Hb.out.block b hbs))
      have HS := Lib.hid hS
      clear hc hkl hS
      rcases Bool.eq_false_or_eq_true (okS S) with ho | ho
      · have Ho := Lib.hid ho
        go_wp2_with fail
        refine (validStone_any S _).mono ?_
        rintro e w1 ⟨rfl, b1⟩
        rw [Ho.out]
        have Hb1 : Hid (Below w.heap.size w w1) := b_then (b_alloc Hb.out _) b1
        have Hz1 : Hid (∀ j S, j < k + 1 → ps[j]? = some S → okS S = true) := fun j C hj hC => by
          rcases (by omega : j < k ∨ j = k) with h | rfl
          · exact Hz.out j C h hC
          · have := HS.out; rw [hC] at this; cases this; exact Ho.out
        clear b1 c0 c1 c2 c3 ho
        go_wp2
        go_roundw
        case rel => exact ⟨k + 1, by omega, by go_num, Hb1.out, Hz1.out⟩
        case measure => simp [intOf]; omega
      · have Ho := Lib.hid ho
        go_wp2_with fail
        refine (validStone_any S _).mono ?_
        rintro e w1 ⟨rfl, b1⟩
        rw [Ho.out]
        have Hb1 : Hid (Below w.heap.size w w1) := b_then (b_alloc Hb.out _) b1
        have e1 : shE ps t f = 1 := by unfold shE; rw [allS_stop HS.out Ho.out]; rfl
        have E1 := Lib.hid e1
        clear b1 c0 c1 c2 c3 ho e1
        go_wp2
        go_ret
        rw [E1.out]
        exact ⟨rfl, Hb1.out⟩
    · have hkn : k = n := by omega
      subst hkn
      have ha : allS ps = true := allS_done (ps := ps) (fun j B hj => Hz.out j B (by have := (List.getElem?_eq_some_iff.1 hj).1; have := Hl.out; omega) hj)
      have Ha := Lib.hid ha; clear ha
      clear Hz
      have hP := fun w => isPlainSize_any t w
      have hQ := fun w => isRate_any f w
      rcases Bool.eq_false_or_eq_true (psB t) with p1 | p1
      · rw [p1] at hP
        have HP := Lib.hid hP; clear hP
        rcases Bool.eq_false_or_eq_true (rtB f) with p2 | p2
        · rw [p2] at hQ
          have HQ := Lib.hid hQ; clear hQ
          have HPP : Hid ((psB t && rtB f) = true) := by show _ = _; rw [p1, p2]; rfl
          clear p1 p2
          by_cases h60 : 60 < k
          · have z1 : (60 : Int) < (k : Int) := by omega
            have e1 : shE ps t f = 3 := by unfold shE; rw [Ha.out, HPP.out, Hl.out]; simp [h60]
            have E1 := Lib.hid e1; clear e1
            go_wp2_with (first | (go_at_call 29; refine (HP.out _).mono ?_; rintro e w1 ⟨rfl, rfl⟩) | (go_at_call 30; refine (HQ.out _).mono ?_; rintro e w1 ⟨rfl, rfl⟩))
            go_ret
            rw [E1.out]
            exact ⟨rfl, Hb.out⟩
          · have z1 : ¬ (60 : Int) < (k : Int) := by omega
            by_cases h0 : k = 0
            · have e1 : shE ps t f = 6 := by unfold shE; rw [Ha.out, HPP.out, Hl.out]; simp [h0]
              have E1 := Lib.hid e1; clear e1
              subst h0
              go_wp2_with (first | (go_at_call 29; refine (HP.out _).mono ?_; rintro e w1 ⟨rfl, rfl⟩) | (go_at_call 30; refine (HQ.out _).mono ?_; rintro e w1 ⟨rfl, rfl⟩))
              go_ret
              rw [E1.out]
              exact ⟨rfl, Hb.out⟩
            · have z0 : ((k : Int) == 0) = false := by simp; omega
              have e1 : shE ps t f = 0 := by unfold shE; rw [Ha.out, HPP.out, Hl.out]; simp [h60, h0]
              have E1 := Lib.hid e1; clear e1
              go_wp2_with (first | (go_at_call 29; refine (HP.out _).mono ?_; rintro e w1 ⟨rfl, rfl⟩) | (go_at_call 30; refine (HQ.out _).mono ?_; rintro e w1 ⟨rfl, rfl⟩))
              go_ret
              rw [E1.out]
              exact ⟨rfl, Hb.out⟩
        · rw [p2] at hQ
          have HQ := Lib.hid hQ; clear hQ
          have e1 : shE ps t f = 2 := by unfold shE; rw [Ha.out, p1, p2]; rfl
          have E1 := Lib.hid e1
          clear e1 p1 p2
          go_wp2_with (first | (go_at_call 29; refine (HP.out _).mono ?_; rintro e w1 ⟨rfl, rfl⟩) | (go_at_call 30; refine (HQ.out _).mono ?_; rintro e w1 ⟨rfl, rfl⟩))
          go_ret
          rw [E1.out]
          exact ⟨rfl, Hb.out⟩
      · rw [p1] at hP
        have HP := Lib.hid hP; clear hP hQ
        have e1 : shE ps t f = 2 := by unfold shE; rw [Ha.out, p1]; rfl
        have E1 := Lib.hid e1
        clear e1 p1
        go_wp2_with (first | (go_at_call 29; refine (HP.out _).mono ?_; rintro e w1 ⟨rfl, rfl⟩))
        go_ret
        rw [E1.out]
        exact ⟨rfl, Hb.out⟩
theorem shE_pos {ps : List Sn} {t f : Nat} (h : shE ps t f ≠ 0) : shK ps t f = shE ps t f := by
  unfold shE at h ⊢
  unfold shK
  split
  · split
    · split
      · rfl
      · split
        · rfl
        · rename_i h1 h2 h3 h4
          rw [if_pos h1, if_pos h2, if_neg h3, if_neg h4] at h
          exact absurd rfl h
    · rfl
  · rfl
theorem shE_zero {ps : List Sn} {t f : Nat} (h : shE ps t f = 0) : ps.length ≠ 0 ∧ ps.length ≤ 60 ∧ shK ps t f = if oGt (sumLd ps 0 f) t then 6 else 0 := by
  unfold shE at h
  split at h
  · split at h
    · split at h
      · cases h
      · split at h
        · cases h
        · rename_i h1 h2 h3 h4
          refine ⟨h4, by omega, ?_⟩
          unfold shK
          rw [if_pos h1, if_pos h2, if_neg h3, if_neg h4]
    · cases h
  · cases h
set_option maxRecDepth 100000 in
set_option maxHeartbeats 4000000 in
theorem implShare_any (A : Option Addr) (n c : Nat) (ps : List Sn) (t f : Nat) (w : World) (hl : ps.length = n) (hn : n ≤ 1048576) (hT : Sn.L w w.heap.size A ps) :
    Calls Try.prog 20 #[.slice A n c, .float .f32 t, .float .f32 f] w (FLC (shT ps t f) (shK ps t f) w) := by
  obtain ⟨i0, hi, hz0, hz1, hz2⟩ := info_parts infoF32
  have Hi := Lib.hid hi
  have Hl := Lib.hid hl; clear hl
  have HT := Lib.hid hT; clear hT
  have HE := Lib.hid (shareError_any A n c ps t f w Hl.out hn HT.out)
  by_cases hz : shE ps t f = 0
  · obtain ⟨hne, hle, hk⟩ := shE_zero hz
    rw [hz] at HE
    have HK := Lib.hid hk; have Hz := Lib.hid hz
    have hn0 : n ≠ 0 := by rw [← Hl.out]; exact hne
    clear hk hz
    rcases Bool.eq_false_or_eq_true (oGt (sumLd ps 0 f) t) with g | g
    · have e1 : shK ps t f = 6 := by rw [HK.out, g]; rfl
      have E1 := Lib.hid e1; have G := Lib.hid g; clear e1 g
      go_enter Try.func20, Try.ntmps20
      go_wp2_with (first | (go_at_call 43; refine HE.out.mono ?_; rintro e w1 ⟨rfl, b1⟩) | (go_at_call 44; refine (loadWith_any _ _ _ _ _).mono ?_; rintro e w2 ⟨rfl, rfl⟩))
      refine (steady_any Hl.out hn t 40 (by omega) _ (env_new f (HT.out.keep b1))).mono ?_
      rw [G.out]
      rintro e w3 ⟨r, rfl, hr, b3⟩
      have B3 : Hid (Below w.heap.size w w3) := b_then (b_alloc (b_alloc b1 _) _) b3
      clear b1 b3 hr
      go_wp2
      go_ret2
      rw [sh_err E1.out (by decide), E1.out]
      exact flc_of_row (fs := []) (World.ownsRow_nil _ _ _ _) B3.out
    · have e1 : shK ps t f = 0 := by rw [HK.out, g]; rfl
      have e2 : shT ps t f = shL ps t f := by unfold shT; rw [e1]; rfl
      have hV : steadyV ps t f 40 = steadyC ps t f 40 := by unfold steadyV; rw [g]; rfl
      have E1 := Lib.hid e1; have E2 := Lib.hid e2; have G := Lib.hid g; have HV := Lib.hid hV
      clear e1 e2 g hV
      go_enter Try.func20, Try.ntmps20
      go_wp2_with (first | (go_at_call 43; refine HE.out.mono ?_; rintro e w1 ⟨rfl, b1⟩) | (go_at_call 44; refine (loadWith_any _ _ _ _ _).mono ?_; rintro e w2 ⟨rfl, rfl⟩))
      refine (steady_any Hl.out hn t 40 (by omega) _ (env_new f (HT.out.keep b1))).mono ?_
      rw [G.out, HV.out, show codeSt false = 0 from rfl]
      rintro e w3 ⟨r, rfl, hr, b3⟩
      have B3 : Hid (Below w.heap.size w w3) := b_then (b_alloc (b_alloc b1 _) _) b3
      have HR := Lib.hid hr
      clear b1 b3 hr
      go_wp2_with (at_make; refine wpList_make_own _ rfl _ _ 25 rfl w.heap.size 22 i0 _ 1 Try.underlying25 hi hz0 hz1 _ _ _ n rfl rfl (by omega) (by rw [hz2]; omega) (by unfold maxLen; omega) B3.out.size ?_; intro w4 hown hgrow; have B4 : Hid (Below w.heap.size w w4) := B3.out.grown hgrow B3.out.size (fun k h => by cases h); have Ho := Lib.hid hown; clear hown hgrow)
      go_loopw [11, 37] (fun v i wr => ∃ (j : Nat) (fs : List Nat), j ≤ n ∧ i = .int .i64 j ∧ wr.ownsRow w.heap.size 22 1 v j (fs.map (Value.float .f32)) ∧ fs.map cn = (shL ps t f).take j ∧ fs.length = j ∧ Below w.heap.size w wr) (fun _ i _ => n - (intOf i).toNat)
      case atStart => exact ⟨0, [], Nat.zero_le _, rfl, Ho.out, rfl, rfl, B4.out⟩
      case round =>
        obtain ⟨j, fs, hj, rfl, hown, hcs, hfl, hbb⟩ := hrel
        have Hown := Lib.hid hown; have Hcs := Lib.hid hcs; have Hfl := Lib.hid hfl; have Hbb := Lib.hid hbb
        clear hown hcs hfl hbb
        by_cases hlt : j < n
        · have hkl : j < ps.length := by have := Hl.out; omega
          obtain ⟨b, off, rfl, hbs, hc⟩ := HT.out (by omega)
          obtain ⟨S, hS⟩ : ∃ S, ps[j]? = some S := ⟨_, List.getElem?_eq_getElem hkl⟩
          obtain ⟨c0, c1, c2, c3⟩ := Sn.at (rangeAt_of_block (hc j S hS) (Hbb.out.block b hbs))
          have hst := shL_at hS t f
          have Hst := Lib.hid hst
          have hba := own_base Hown.out
          have Hba := Lib.hid hba
          clear hc hkl hS hst hba
          go_wp2_with (first
            | (go_at_call 46; refine (implLoad_any S _ _ _).mono ?_; rintro e w5 ⟨x, rfl, hx, b5⟩; have B5 : Hid (Below w.heap.size w w5) := b_then (b_alloc Hbb.out _) b5; have O5 : Hid (w5.ownsRow w.heap.size 22 1 _ j (fs.map (Value.float .f32))) := own_below (Hown.out.alloc _) b5; have Hx := Lib.hid hx; clear hx b5)
            | (at_builtin; refine wpList_append_own _ rfl _ _ 25 rfl w.heap.size 22 i0 _ 1 4 Try.underlying25 hi hz0 hz1 hz2 rfl (by omega) _ j _ rfl (O5.out.alloc _) _ 1 _ [_] rfl rfl (World.news_of_block (cs := #[_]) (heap_alloc_new _ _)) (by intro u hu; simp at hu; subst hu; rfl) (by unfold maxLen; omega) (by omega) (by have := B5.out.size; simp; omega) ?_; intro v9 w9 hown9 hgrow9 hif9))
          all_goals
            have B9 : Hid (Below w.heap.size w w9) := (B5.out.alloc B5.out.size _).grown hgrow9 (by have := B5.out.size; simp; omega) (fun k h => (Hba.out k h).1)
            have O9 : Hid (w9.ownsRow w.heap.size 22 1 v9 (j + 1) ((fs ++ [x]).map (Value.float .f32))) := by
              rw [List.map_append]
              exact hown9
            have e9 : Hid ((fs ++ [x]).map cn = (shL ps t f).take (j + 1)) := takeS_snoc Hcs.out (by rw [Hst.out, show cn x = loadC S r f from Hx.out, loadC_cn S (cnSteady HR.out) rfl])
            have l9 : Hid ((fs ++ [x]).length = j + 1) := by rw [List.length_append, Hfl.out]; rfl
            clear hown9 hgrow9 hif9 c0 c1 c2 c3
            go_wp2
            go_roundw
            case rel => exact ⟨j + 1, fs ++ [x], by omega, by go_num, O9.out, e9.out, l9.out, B9.out⟩
            case measure => simp [intOf]; omega
        · obtain rfl : j = n := by omega
          have hz : fs.map cn = shL ps t f := by
            have := Hcs.out
            rwa [List.take_of_length_le (by unfold shL; rw [List.length_map, Hl.out]; exact Nat.le_refl _)] at this
          have Hzz := Lib.hid hz; clear hz
          go_wp2
          go_ret2
          rw [E1.out, E2.out, ← Hzz.out]
          exact flc_of_row Hown.out Hbb.out
  · have hk := shE_pos hz
    have hcases : shE ps t f = 1 ∨ shE ps t f = 2 ∨ shE ps t f = 3 ∨ shE ps t f = 6 := by
      unfold shE at hz ⊢
      split <;> (try split) <;> (try split) <;> (try split) <;> simp_all
    rcases hcases with h | h | h | h
    all_goals
      rw [h] at hk HE
      have HK := Lib.hid hk
      clear hk hz h
      go_enter Try.func20, Try.ntmps20
      go_wp2_with (first | (go_at_call 43; refine HE.out.mono ?_; rintro e w1 ⟨rfl, b1⟩))
      go_ret2
      rw [sh_err HK.out (by decide), HK.out]
      exact flc_of_row (fs := []) (World.ownsRow_nil _ _ _ _) b1
end Go.Proofs.Ytagjkagfnfonpab
