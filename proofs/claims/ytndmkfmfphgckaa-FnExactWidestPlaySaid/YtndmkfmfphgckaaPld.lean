/-
  What adds up along a train: the model's sums.
-/
import Derived.Test.YtndmkfmfphgckaaPlb
import Derived.Deep.RegionLaw
import Derived.IntWalk
namespace Go.Proofs.Ytndmkfmfphgckaa
open Go.RowKit Go.ChangeShapes Go.WideShapes Go.Deep
attribute [local go_sem ↓] Go.wp_at_zero Go.wp_at_succ
set_option linter.unusedVariables false
set_option linter.unusedSimpArgs false
set_option maxRecDepth 100000
theorem l01Q_any (a b : Int) (w : World) : Calls Try.prog 87 #[.int .i16 a, .int .i16 b] w fun e w' => ∃ r n, e = .returned (.float .f32 r) ∧ CN r (f2 .quo (fint a) (fint b)) ∧ w' = w.drewN n := by
  go_enter Try.func87, Try.ntmps87
  go_wp2_with (refine wpList_f32 rfl _ _ _ _ _ _ _ rfl rfl rfl rfl ?_; intro r n hr; have Hr := Lib.hid hr; clear hr)
  go_ret
  refine ⟨r, n, rfl, ?_, rfl⟩
  unfold CN
  rw [Hr.out, cn_fint, cn_fint]
set_option maxHeartbeats 8000000 in
theorem l06Along_any (A A' : Option Addr) (n c c' : Nat) (ps : List Px) (fs : List Nat) (w : World) (hl : ps.length = n) (hl' : fs.length = n) (hn : n ≤ 1048576) (hT : Px.L w w.heap.size A ps) (hT' : Fo w w.heap.size A' fs) :
    Calls Try.prog 75 #[.slice A n c, .slice A' n c'] w (FRw ((List.range n).map (sN (pF fs) (qF ps))) w) := by
  obtain ⟨i0, hi, hz0, hz1, hz2⟩ := info_parts infoF32
  obtain ⟨R, N, hR, hC⟩ := ops_fun Try.prog 22; have ra := hR .add rfl; have rs := hR .sub rfl; have rm := hR .mul rfl; have rq := hR .quo rfl; have HC := Lib.hid hC; clear hC hR
  have Hl := Lib.hid hl; clear hl
  have Hl' := Lib.hid hl'; clear hl'
  have HT := Lib.hid hT; clear hT
  have HT' := Lib.hid hT'; clear hT'
  have Ho : Hid ((w.alloc (.cells #[] 22)).ownsRow w.heap.size 22 1 (.slice (some ⟨w.heap.size, 0, none⟩) 0 0) 0 (([] : List Nat).map (Value.float .f32))) := own_empty w w.heap.size 22 1 (Nat.le_refl _)
  have B2 : Hid (Below w.heap.size w (w.alloc (.cells #[] 22))) := b_alloc (Below.refl _ _) _
  go_enter Try.func75, Try.ntmps75
  go_wp2
  go_loopw [5, 6, 7] (fun v i s7 wr => ∃ (j : Nat) (hs : List Nat), j ≤ n ∧ i = .int .i64 j ∧ Hid (wr.ownsRow w.heap.size 22 1 v j (hs.map (Value.float .f32))) ∧ Hid (hs.map cn = (List.range j).map (sN (pF fs) (qF ps))) ∧ Hid (hs.length = j) ∧ Hid (Below w.heap.size w wr)) (fun _ i _ _ => n - (intOf i).toNat)
  case atStart => exact ⟨0, [], Nat.zero_le _, rfl, Ho, rfl, rfl, B2⟩
  case round =>
    obtain ⟨j, hs, hj, rfl, Hown, Hcs, Hfl, Hbb⟩ := hrel
    by_cases hlt : j < n
    · have hkl : j < fs.length := by have := Hl'.out; omega
      have hkl' : j < ps.length := by have := Hl.out; omega
      obtain ⟨b, off, rfl, hbs, hc⟩ := HT'.out (by omega)
      obtain ⟨b', off', rfl, hbs', hc'⟩ := HT.out (by omega)
      obtain ⟨f, hf⟩ : ∃ f, fs[j]? = some f := ⟨_, List.getElem?_eq_getElem hkl⟩
      obtain ⟨p, hp⟩ : ∃ p, ps[j]? = some p := ⟨_, List.getElem?_eq_getElem hkl'⟩
      have c0 := (World.cell?_of_block (a := ⟨b, off + j, none⟩) (Hbb.out.block b hbs)).trans (hc j f hf)
      obtain ⟨e0, e1, _⟩ := Px.at (rangeAt_of_block (hc' j p hp) (Hbb.out.block b' hbs'))
      have Hpf := Lib.hid (pF_at hf)
      have Hqg := Lib.hid (qF_at hp)
      have Hba := Lib.hid (own_base Hown.out)
      clear hc hc' hkl hkl' hf hp
      cases j with
      | zero =>
        simp only [Nat.add_zero] at c0
        clear e0 e1
        go_wp2_with (at_builtin; refine wpList_append_own _ rfl _ _ 45 rfl w.heap.size 22 i0 _ 1 4 Try.underlying45 hi hz0 hz1 hz2 rfl (by omega) _ 0 _ rfl (Hown.out.alloc _) _ 1 _ [_] rfl rfl (World.news_of_block (cs := #[_]) (heap_alloc_new _ _)) (by intro u hu; simp at hu; subst hu; rfl) (by unfold maxLen; omega) (by omega) (by have := Hbb.out.size; simp; omega) ?_; intro v9 w9 hown9 hgrow9 hif9)
        all_goals
          have B9 : Hid (Below w.heap.size w w9) := (Hbb.out.alloc Hbb.out.size _).grown hgrow9 (by have := Hbb.out.size; simp; omega) (fun k h => (Hba.out k h).1)
          have O9 : Hid (w9.ownsRow w.heap.size 22 1 v9 (0 + 1) ((hs ++ [f]).map (Value.float .f32))) := by
            rw [List.map_append]
            exact hown9
          have e9 : Hid ((hs ++ [f]).map cn = (List.range (0 + 1)).map (sN (pF fs) (qF ps))) := range_snoc Hcs.out Hpf.out.symm
          have l9 : Hid ((hs ++ [f]).length = 0 + 1) := by show _ = _; rw [List.length_append, Hfl.out]; rfl
          clear hown9 hgrow9 hif9 c0
          go_wp2
          go_roundw
          case rel => exact ⟨0 + 1, hs ++ [f], by omega, by go_num, O9, e9, l9, B9⟩
          case measure => simp [intOf]; omega
      | succ m =>
        obtain ⟨ga, cp, rfl, hgb⟩ := row_form Hown.out (by omega)
        obtain ⟨h, hh⟩ : ∃ h, hs[m]? = some h := ⟨_, List.getElem?_eq_getElem (by rw [Hfl.out]; omega)⟩
        have d0 : wr.cell? ⟨ga, m, none⟩ = some (.float .f32 h) := (Hown.out.cellAt m (by omega)).trans (by rw [List.getElem?_map, hh]; rfl)
        have Hsh := Lib.hid (range_at Hcs.out hh)
        have u1 : (0 : Int) < ((m + 1 : Nat) : Int) := by omega
        have u2 : IntKind.i64.wrap (m : Int) = (m : Int) := IntWalk.i64_in _ (by omega)
        have u3 : (m : Int) < (m : Int) + 1 := by omega
        have u4 : (m : Int) + 1 < (n : Int) := by omega
        have u5 : (0 : Int) ≤ (m : Int) + 1 := by omega
        clear hh
        go_upto_region 7 with fail
        go_cut [7] (fun s7 wx => (∃ r, s7 = .float .f32 r ∧ CN r (sN (pF fs) (qF ps) (m + 1))) ∧ Below wr.heap.size wr wx)
        case first =>
          go_region_law (go_simp; go_at_call 87; refine (l01Q_any _ _ _).mono ?_; rintro e w5 ⟨r, n5, rfl, hr, rfl⟩; have Hr := Lib.hid hr; clear hr; dsimp only)
          all_goals
            go_wp2_with fail
            go_meet
            refine ⟨⟨_, rfl, ?_⟩, ?_⟩
            · unfold CN
              have h2 : cn r = fwdC p := Hr.out
              rw [sN, HC.out .add rfl, HC.out .mul rfl, Hsh.out, Hqg.out, Hpf.out, h2]
            · repeat (first | exact Below.refl wr.heap.size wr | refine b_drewN ?_ _ | refine b_drew ?_ | refine b_then ?_ (by assumption))
        case rest =>
          obtain ⟨⟨r, rfl, hr⟩, hbc⟩ := hcut
          have Hr := Lib.hid hr
          have Bc : Hid (Below w.heap.size w wc) := b_then Hbb.out hbc
          have Oc : Hid (wc.ownsRow w.heap.size 22 1 (.slice (some ⟨ga, 0, none⟩) (m + 1) cp) (m + 1) (hs.map (Value.float .f32))) := own_below Hown.out hbc
          clear hr hbc c0 d0 e0 e1
          go_wp2_with (at_builtin; refine wpList_append_own _ rfl _ _ 45 rfl w.heap.size 22 i0 _ 1 4 Try.underlying45 hi hz0 hz1 hz2 rfl (by omega) _ (m + 1) _ rfl (Oc.out.alloc _) _ 1 _ [_] rfl rfl (World.news_of_block (cs := #[_]) (heap_alloc_new _ _)) (by intro u hu; simp at hu; subst hu; rfl) (by unfold maxLen; omega) (by omega) (by have := Bc.out.size; simp; omega) ?_; intro v9 w9 hown9 hgrow9 hif9)
          all_goals
            have B9 : Hid (Below w.heap.size w w9) := (Bc.out.alloc Bc.out.size _).grown hgrow9 (by have := Bc.out.size; simp; omega) (fun k h => (Hba.out k h).1)
            have O9 : Hid (w9.ownsRow w.heap.size 22 1 v9 (m + 1 + 1) ((hs ++ [r]).map (Value.float .f32))) := by
              rw [List.map_append]
              exact hown9
            have e9 : Hid ((hs ++ [r]).map cn = (List.range (m + 1 + 1)).map (sN (pF fs) (qF ps))) := range_snoc Hcs.out Hr.out
            have l9 : Hid ((hs ++ [r]).length = m + 1 + 1) := by show _ = _; rw [List.length_append, Hfl.out]; rfl
            clear hown9 hgrow9 hif9
            go_wp2
            go_roundw
            case rel => exact ⟨m + 1 + 1, hs ++ [r], by omega, by go_num, O9, e9, l9, B9⟩
            case measure => simp [intOf]; omega
    · obtain rfl : j = n := by omega
      go_wp2
      go_ret
      exact ⟨_, hs, rfl, by rw [Hfl.out]; exact Hown.out, Hcs.out, Hbb.out⟩
set_option maxHeartbeats 1000000 in
theorem l06Last_any (A A' : Option Addr) (n c c' : Nat) (ps : List Px) (fs : List Nat) (w : World) (hl : ps.length = n) (hl' : fs.length = n) (h1 : 1 ≤ n) (hn : n ≤ 1048576) (hT : Px.L w w.heap.size A ps) (hT' : Fo w w.heap.size A' fs) :
    Calls Try.prog 70 #[.slice A n c, .slice A' n c'] w (RF (sN (pF fs) (qF ps) (n - 1)) w) := by
  have Hl := Lib.hid hl; clear hl
  have Hl' := Lib.hid hl'; clear hl'
  have HT := Lib.hid hT; clear hT
  have HT' := Lib.hid hT'; clear hT'
  obtain ⟨m, rfl⟩ : ∃ m, n = m + 1 := ⟨n - 1, by omega⟩
  have u2 : IntKind.i64.wrap (m : Int) = (m : Int) := IntWalk.i64_in _ (by omega)
  have u3 : (m : Int) < (m : Int) + 1 := by omega
  go_enter Try.func70, Try.ntmps70
  go_wp2_with fail
  refine (l06Along_any _ _ _ _ _ ps fs _ Hl.out Hl'.out hn HT.out HT'.out).mono ?_
  rintro e w2 ⟨v, hs, rfl, hr, hc, b2⟩
  have hhl : hs.length = m + 1 := by have := congrArg List.length hc; simpa using this
  rw [hhl] at hr
  obtain ⟨g, cp, rfl, hgb⟩ := row_form hr (by omega)
  obtain ⟨h, hh⟩ : ∃ h, hs[m]? = some h := ⟨_, List.getElem?_eq_getElem (by omega)⟩
  have d0 : w2.cell? ⟨g, m, none⟩ = some (.float .f32 h) := (hr.cellAt m (by omega)).trans (by rw [List.getElem?_map, hh]; rfl)
  have Hx := Lib.hid (range_at hc hh)
  have B2 := Lib.hid b2
  clear hr hc hhl hh hgb b2
  go_wp2
  go_ret
  exact ⟨_, rfl, Hx.out, B2.out⟩
end Go.Proofs.Ytndmkfmfphgckaa
