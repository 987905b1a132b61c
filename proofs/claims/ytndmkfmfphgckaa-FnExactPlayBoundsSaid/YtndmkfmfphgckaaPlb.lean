/-
  What adds up along a train: the program's sums.
-/
import Derived.Test.YtndmkfmfphgckaaPla
import Derived.Deep.RegionLaw
import Derived.IntWalk
namespace Go.Proofs.Ytndmkfmfphgckaa
open Go.RowKit Go.ChangeShapes Go.WideShapes Go.Deep
attribute [local go_sem ↓] Go.wp_at_zero Go.wp_at_succ
set_option linter.unusedVariables false
set_option linter.unusedSimpArgs false
set_option maxRecDepth 100000
set_option maxHeartbeats 8000000 in
theorem addedUp_any (A A' : Option Addr) (n c c' : Nat) (fs gs : List Nat) (q : Nat → Nat) (w : World) (hl : fs.length = n) (hl' : gs.length = n) (hq : gs.map cn = (List.range n).map q) (hn : n ≤ 1048576) (hT : Fo w w.heap.size A fs) (hT' : Fo w w.heap.size A' gs) :
    Calls Try.prog 76 #[.slice A n c, .slice A' n c'] w (FRw ((List.range n).map (sN (pF fs) q)) w) := by
  obtain ⟨i0, hi, hz0, hz1, hz2⟩ := info_parts infoF32
  obtain ⟨R, N, hR, hC⟩ := ops_fun Try.prog 22; have ra := hR .add rfl; have rs := hR .sub rfl; have rm := hR .mul rfl; have rq := hR .quo rfl; have HC := Lib.hid hC; clear hC hR
  have Hl := Lib.hid hl; clear hl
  have Hl' := Lib.hid hl'; clear hl'
  have Hgq := Lib.hid hq; clear hq
  have HT := Lib.hid hT; clear hT
  have HT' := Lib.hid hT'; clear hT'
  go_enter Try.func76, Try.ntmps76
  go_wp2_with (at_make; refine wpList_make_own _ rfl _ _ 45 rfl w.heap.size 22 i0 _ 1 Try.underlying45 hi hz0 hz1 _ _ _ n rfl rfl (by omega) (by rw [hz2]; omega) (by unfold maxLen; omega) (Nat.le_refl _) ?_; intro w2 hown hgrow; have B2 : Hid (Below w.heap.size w w2) := (Below.refl _ _).grown hgrow (Nat.le_refl _) (fun k h => by cases h); have Ho := Lib.hid hown; have hsz2 := (own_base hown _ rfl).2; clear hown hgrow)
  go_loopw [5, 6, 7, 13] (fun v i6 s7 i wr => ∃ (j : Nat) (hs : List Nat), j ≤ n ∧ i = .int .i64 j ∧ Hid (wr.ownsRow w.heap.size 22 1 v j (hs.map (Value.float .f32))) ∧ Hid (hs.map cn = (List.range j).map (sN (pF fs) q)) ∧ Hid (hs.length = j) ∧ Hid (Below w.heap.size w wr)) (fun _ _ _ i _ => n - (intOf i).toNat)
  case atStart => exact ⟨0, [], Nat.zero_le _, rfl, Ho, rfl, rfl, B2⟩
  case round =>
    obtain ⟨j, hs, hj, rfl, Hown, Hcs, Hfl, Hbb⟩ := hrel
    by_cases hlt : j < n
    · have hkl : j < fs.length := by have := Hl.out; omega
      have hkl' : j < gs.length := by have := Hl'.out; omega
      obtain ⟨b, off, rfl, hbs, hc⟩ := HT.out (by omega)
      obtain ⟨b', off', rfl, hbs', hc'⟩ := HT'.out (by omega)
      obtain ⟨f, hf⟩ : ∃ f, fs[j]? = some f := ⟨_, List.getElem?_eq_getElem hkl⟩
      obtain ⟨g, hg⟩ : ∃ g, gs[j]? = some g := ⟨_, List.getElem?_eq_getElem hkl'⟩
      have c0 := (World.cell?_of_block (a := ⟨b, off + j, none⟩) (Hbb.out.block b hbs)).trans (hc j f hf)
      have c1 := (World.cell?_of_block (a := ⟨b', off' + j, none⟩) (Hbb.out.block b' hbs')).trans (hc' j g hg)
      have Hpf := Lib.hid (pF_at hf)
      have Hqg := Lib.hid (range_at Hgq.out hg)
      have Hba := Lib.hid (own_base Hown.out)
      clear hc hc' hkl hkl' hf hg
      cases j with
      | zero =>
        simp only [Nat.add_zero] at c0 c1
        go_wp2_with (at_builtin; refine wpList_append_own _ rfl _ _ 45 rfl w.heap.size 22 i0 _ 1 4 Try.underlying45 hi hz0 hz1 hz2 rfl (by omega) _ 0 _ rfl (Hown.out.alloc _) _ 1 _ [_] rfl rfl (World.news_of_block (cs := #[_]) (heap_alloc_new _ _)) (by intro u hu; simp at hu; subst hu; rfl) (by unfold maxLen; omega) (by omega) (by have := Hbb.out.size; simp; omega) ?_; intro v9 w9 hown9 hgrow9 hif9)
        all_goals
          have B9 : Hid (Below w.heap.size w w9) := (Hbb.out.alloc Hbb.out.size _).grown hgrow9 (by have := Hbb.out.size; simp; omega) (fun k h => (Hba.out k h).1)
          have O9 : Hid (w9.ownsRow w.heap.size 22 1 v9 (0 + 1) ((hs ++ [f]).map (Value.float .f32))) := by
            rw [List.map_append]
            exact hown9
          have e9 : Hid ((hs ++ [f]).map cn = (List.range (0 + 1)).map (sN (pF fs) q)) := range_snoc Hcs.out Hpf.out.symm
          have l9 : Hid ((hs ++ [f]).length = 0 + 1) := by show _ = _; rw [List.length_append, Hfl.out]; rfl
          clear hown9 hgrow9 hif9 c0 c1
          go_wp2
          go_roundw
          case rel => exact ⟨0 + 1, hs ++ [f], by omega, by go_num, O9, e9, l9, B9⟩
          case measure => simp [intOf]; omega
      | succ m =>
        obtain ⟨ga, cp, rfl, hgb⟩ := row_form Hown.out (by omega)
        obtain ⟨h, hh⟩ : ∃ h, hs[m]? = some h := ⟨_, List.getElem?_eq_getElem (by rw [Hfl.out]; omega)⟩
        have d0 : wr.cell? ⟨ga, m, none⟩ = some (.float .f32 h) := (Hown.out.cellAt m (by omega)).trans (by rw [List.getElem?_map, hh]; rfl)
        have Hsh := Lib.hid (range_at Hcs.out hh)
        have u1 : (0 : Int) < ((m + 1 : Nat) : Int) := by omega
        have u2 : IntKind.i64.wrap (m : Int) = (m : Int) := IntWalk.i64_in _ (by omega)
        have u3 : (m : Int) < (m : Int) + 1 := by omega
        have u4 : (m : Int) + 1 < (n : Int) := by omega
        have u5 : (0 : Int) ≤ (m : Int) + 1 := by omega
        clear hh
        go_upto_region 6 with fail
        go_cut [7] (fun s7 wx => (∃ r, s7 = .float .f32 r ∧ CN r (sN (pF fs) q (m + 1))) ∧ Below wr.heap.size wr wx)
        case first =>
          go_region_law (fail)
          all_goals
            go_wp2_with fail
            go_meet
            refine ⟨⟨_, rfl, ?_⟩, ?_⟩
            · unfold CN
              rw [sN, HC.out .add rfl, HC.out .mul rfl, Hsh.out, Hqg.out, Hpf.out]
            · repeat (first | exact Below.refl wr.heap.size wr | refine b_drewN ?_ _ | refine b_drew ?_ | refine b_then ?_ (by assumption))
        case rest =>
          obtain ⟨⟨r, rfl, hr⟩, hbc⟩ := hcut
          have Hr := Lib.hid hr
          have Bc : Hid (Below w.heap.size w wc) := b_then Hbb.out hbc
          have Oc : Hid (wc.ownsRow w.heap.size 22 1 (.slice (some ⟨ga, 0, none⟩) (m + 1) cp) (m + 1) (hs.map (Value.float .f32))) := own_below Hown.out hbc
          clear hr hbc c0 c1 d0
          go_wp2_with (at_builtin; refine wpList_append_own _ rfl _ _ 45 rfl w.heap.size 22 i0 _ 1 4 Try.underlying45 hi hz0 hz1 hz2 rfl (by omega) _ (m + 1) _ rfl (Oc.out.alloc _) _ 1 _ [_] rfl rfl (World.news_of_block (cs := #[_]) (heap_alloc_new _ _)) (by intro u hu; simp at hu; subst hu; rfl) (by unfold maxLen; omega) (by omega) (by have := Bc.out.size; simp; omega) ?_; intro v9 w9 hown9 hgrow9 hif9)
          all_goals
            have B9 : Hid (Below w.heap.size w w9) := (Bc.out.alloc Bc.out.size _).grown hgrow9 (by have := Bc.out.size; simp; omega) (fun k h => (Hba.out k h).1)
            have O9 : Hid (w9.ownsRow w.heap.size 22 1 v9 (m + 1 + 1) ((hs ++ [r]).map (Value.float .f32))) := by
              rw [List.map_append]
              exact hown9
            have e9 : Hid ((hs ++ [r]).map cn = (List.range (m + 1 + 1)).map (sN (pF fs) q)) := range_snoc Hcs.out Hr.out
            have l9 : Hid ((hs ++ [r]).length = m + 1 + 1) := by show _ = _; rw [List.length_append, Hfl.out]; rfl
            clear hown9 hgrow9 hif9
            go_wp2
            go_roundw
            case rel => exact ⟨m + 1 + 1, hs ++ [r], by omega, by go_num, O9, e9, l9, B9⟩
            case measure => simp [intOf]; omega
    · obtain rfl : j = n := by omega
      go_wp2
      go_ret
      exact ⟨_, hs, rfl, by rw [Hfl.out]; exact Hown.out, Hcs.out, Hbb.out⟩
set_option maxHeartbeats 1000000 in
theorem playAt_any (A A' : Option Addr) (n c c' : Nat) (ps : List Px) (fs : List Nat) (w : World) (hl : ps.length = n) (hl' : fs.length = n) (h1 : 1 ≤ n) (hn : n ≤ 1048576) (hT : Px.L w w.heap.size A ps) (hT' : Fo w w.heap.size A' fs) :
    Calls Try.prog 73 #[.slice A n c, .slice A' n c'] w (RF (sN (pF fs) (qF ps) (n - 1)) w) := by
  have Hl := Lib.hid hl; clear hl
  have Hl' := Lib.hid hl'; clear hl'
  have HT := Lib.hid hT; clear hT
  have HT' := Lib.hid hT'; clear hT'
  obtain ⟨m, rfl⟩ : ∃ m, n = m + 1 := ⟨n - 1, by omega⟩
  have u2 : IntKind.i64.wrap (m : Int) = (m : Int) := IntWalk.i64_in _ (by omega)
  have u3 : (m : Int) < (m : Int) + 1 := by omega
  go_enter Try.func73, Try.ntmps73
  go_wp2_with fail
  refine (quotients_any _ _ _ ps _ Hl.out hn HT.out).mono ?_
  rintro e w1 ⟨v, gs, rfl, hr, hc, b1⟩
  have hgl : gs.length = m + 1 := by have := congrArg List.length hc; simpa using this
  obtain ⟨Ag, cg, rfl, hF, _⟩ := fo_of_own hr rfl
  have HF := Lib.hid hF; have HC := Lib.hid hc; have Hgl := Lib.hid hgl; have B1 := Lib.hid b1
  have HT1 := Lib.hid (Fo.keep HT'.out b1)
  clear hr hF hc hgl b1
  go_wp2_with fail
  rw [Hgl.out]
  refine (addedUp_any _ _ _ _ _ fs gs (qF ps) _ Hl'.out Hgl.out HC.out hn HT1.out HF.out).mono ?_
  rintro e w2 ⟨v, hs, rfl, hr, hc, b2⟩
  have hhl : hs.length = m + 1 := by have := congrArg List.length hc; simpa using this
  rw [hhl] at hr
  obtain ⟨g, cp, rfl, hgb⟩ := row_form hr (by omega)
  obtain ⟨h, hh⟩ : ∃ h, hs[m]? = some h := ⟨_, List.getElem?_eq_getElem (by omega)⟩
  have d0 : w2.cell? ⟨g, m, none⟩ = some (.float .f32 h) := (hr.cellAt m (by omega)).trans (by rw [List.getElem?_map, hh]; rfl)
  have Hx := Lib.hid (range_at hc hh)
  have B2 : Hid (Below w.heap.size w w2) := b_then B1.out b2
  clear hr hc hhl hh hgb b2
  go_wp2
  go_ret
  exact ⟨_, rfl, Hx.out, B2.out⟩
end Go.Proofs.Ytndmkfmfphgckaa
