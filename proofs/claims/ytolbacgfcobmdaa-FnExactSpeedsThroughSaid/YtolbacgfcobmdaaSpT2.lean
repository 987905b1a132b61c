/-
  The speeds behind several belts: both functions' contracts.
-/
import Derived.Test.YtolbacgfcobmdaaSpT
namespace Go.Proofs.Ytolbacgfcobmdaa
open Go.RowKit Go.ChangeShapes Go.WideShapes Go.Deep
attribute [local go_sem ↓] Go.wp_at_zero Go.wp_at_succ
set_option linter.unusedVariables false
set_option linter.unusedSimpArgs false
theorem sp_err {bs : List Bl} {s : Nat} {k : Int} (h : spK bs s = k) (h0 : k ≠ 0) : spT bs s = [] := by
  unfold spT
  rw [h, if_neg h0]
set_option maxRecDepth 100000 in
set_option maxHeartbeats 4000000 in
theorem specSp_any (A : Option Addr) (n c : Nat) (ps : List Bl) (s : Nat) (w : World) (hl : ps.length = n) (hn : n ≤ 1048576) (hT : Bl.L w w.heap.size A ps) :
    Calls Try.prog 27 #[.slice A n c, .float .f32 s] w (FLC (spT ps s) (spK ps s) w) := by
  obtain ⟨i0, hi, hz0, hz1, hz2⟩ := info_parts infoF32
  have Hi := Lib.hid hi; clear hi
  have Hl := Lib.hid hl; clear hl
  have HT := Lib.hid hT; clear hT
  go_enter Try.func27, Try.ntmps27
  go_wp2
  go_loopw [6] (fun i wr => ∃ k : Nat, k ≤ n ∧ i = .int .i64 k ∧ Below w.heap.size w wr ∧ ∀ j B, j < k → ps[j]? = some B → okB B = true) (fun i _ => n - (intOf i).toNat)
  case atStart => exact ⟨0, Nat.zero_le _, rfl, Below.refl _ _, fun j B h => absurd h (by omega)⟩
  case round =>
    obtain ⟨k, hk, rfl, hb, hz⟩ := hrel
    have Hb := Lib.hid hb; clear hb
    have Hz := Lib.hid hz; clear hz
    by_cases hlt : k < n
    · have hkl : k < ps.length := by have := Hl.out; omega
      obtain ⟨b, off, rfl, hbs, hc⟩ := HT.out (by omega)
      obtain ⟨B, hB⟩ : ∃ B, ps[k]? = some B := ⟨_, List.getElem?_eq_getElem hkl⟩
      obtain ⟨c0, c1, c2, c3, c4⟩ := Bl.at (rangeAt_of_block (hc k B hB) (Hb.out.block b hbs))
      have HB := Lib.hid hB
      clear hc hkl hB
      rcases Bool.eq_false_or_eq_true (okB B) with ho | ho
      · have Ho := Lib.hid ho
        go_wp2_with fail
        refine (l02OkAt_any B _ _ _ c0 c1 c2 c3).mono ?_
        rintro e w1 ⟨rfl, n1, rfl⟩
        rw [Ho.out]
        have Hb1 : Hid (Below w.heap.size w (wr.drewN n1)) := b_drewN Hb.out _
        have Hz1 : Hid (∀ j B, j < k + 1 → ps[j]? = some B → okB B = true) := fun j C hj hC => by
          rcases (by omega : j < k ∨ j = k) with h | rfl
          · exact Hz.out j C h hC
          · have := HB.out; rw [hC] at this; cases this; exact Ho.out
        clear c0 c1 c2 c3 c4 ho
        go_wp2
        go_roundw
        case rel => exact ⟨k + 1, by omega, by go_num, Hb1.out, Hz1.out⟩
        case measure => simp [intOf]; omega
      · have Ho := Lib.hid ho
        go_wp2_with fail
        refine (l02OkAt_any B _ _ _ c0 c1 c2 c3).mono ?_
        rintro e w1 ⟨rfl, n1, rfl⟩
        rw [Ho.out]
        have Hb1 : Hid (Below w.heap.size w (wr.drewN n1)) := b_drewN Hb.out _
        have e1 : spK ps s = 1 := by unfold spK; rw [all_stop HB.out Ho.out]; rfl
        have E1 := Lib.hid e1
        clear c0 c1 c2 c3 c4 ho e1
        go_wp2
        go_ret2
        rw [sp_err E1.out (by decide), E1.out]
        exact flc_of_row (fs := []) (own_empty _ _ _ _ Hb1.out.size) (b_alloc Hb1.out _)
    · have hkn : k = n := by omega
      subst hkn
      have ha : allOk ps = true := all_done (bs := ps) (fun j B hj => Hz.out j B (by have := (List.getElem?_eq_some_iff.1 hj).1; have := Hl.out; omega) hj)
      have Ha := Lib.hid ha; clear ha
      clear Hz
      rcases Bool.eq_false_or_eq_true (plB s) with h1 | h1
      · by_cases h12 : 12 < k
        · have z1 : (12 : Int) < (k : Int) := by omega
          have e1 : spK ps s = 3 := by unfold spK; rw [Ha.out, h1, Hl.out]; simp [h12]
          have E1 := Lib.hid e1; clear e1
          go_wp2_with (go_at_call 50; refine (l01Plain_any _ _).mono ?_; rintro e w1 ⟨rfl, rfl⟩)
          go_ret2
          rw [sp_err E1.out (by decide), E1.out]
          exact flc_of_row (fs := []) (own_empty _ _ _ _ Hb.out.size) (b_alloc Hb.out _)
        · have z1 : ¬ (12 : Int) < (k : Int) := by omega
          have e1 : spK ps s = 0 := by unfold spK; rw [Ha.out, h1, Hl.out]; simp [h12]
          have e2 : spT ps s = spL ps (cn s) := by unfold spT; rw [e1]; rfl
          have E1 := Lib.hid e1; have E2 := Lib.hid e2
          clear e1 e2
          go_wp2_with (go_at_call 50; refine (l01Plain_any _ _).mono ?_; rintro e w1 ⟨rfl, rfl⟩)
          have hO : (wr.alloc (.cells #[.float .f32 s] 24)).ownsRow w.heap.size 24 1 (.slice (some ⟨wr.heap.size, 0, none⟩) 1 1) 1 ([s].map (Value.float .f32)) :=
            ⟨by simp, .inr ⟨wr.heap.size, 1, #[.float .f32 s], rfl, Hb.out.size, heap_alloc_new wr _, Nat.le_refl _, by unfold maxLen; omega, by simp, by simp⟩⟩
          have HO := Lib.hid hO; clear hO
          have HB0 : Hid (Below w.heap.size w (wr.alloc (.cells #[.float .f32 s] 24))) := b_alloc Hb.out _
          go_loopw [7, 8] (fun v i wr => ∃ (j : Nat) (fs : List Nat), j ≤ k ∧ i = .int .i64 j ∧ wr.ownsRow w.heap.size 24 1 v (j + 1) (fs.map (Value.float .f32)) ∧ fs.map cn = (spL ps (cn s)).take (j + 1) ∧ fs.length = j + 1 ∧ Below w.heap.size w wr) (fun _ i _ => k - (intOf i).toNat)
          case atStart => exact ⟨0, [s], Nat.zero_le _, rfl, HO.out, by rw [List.take_add_one, spL_zero]; rfl, rfl, HB0.out⟩
          case round =>
            obtain ⟨j, fs, hj, rfl, hown, hcs, hfl, hbb⟩ := hrel
            have Hown := Lib.hid hown; have Hcs := Lib.hid hcs; have Hfl := Lib.hid hfl; have Hbb := Lib.hid hbb
            clear hown hcs hfl hbb
            by_cases hlt : j < k
            · have hkl : j < ps.length := by have := Hl.out; omega
              obtain ⟨b, off, rfl, hbs, hc⟩ := HT.out (by omega)
              obtain ⟨B, hB⟩ : ∃ B, ps[j]? = some B := ⟨_, List.getElem?_eq_getElem hkl⟩
              obtain ⟨g, cp, rfl, hg⟩ := row_form Hown.out (by omega)
              obtain ⟨f, hf⟩ : ∃ f, fs[j]? = some f := ⟨_, List.getElem?_eq_getElem (by rw [Hfl.out]; omega)⟩
              have d0 : wr.cell? ⟨g, j, none⟩ = some (.float .f32 f) := (Hown.out.cellAt j (by omega)).trans (by rw [List.getElem?_map, hf]; rfl)
              have hR : wr.rangeAt b (off + j * 5) B.cells := rangeAt_of_block (hc j B hB) (Hbb.out.block b hbs)
              have HR := Lib.hid hR
              have hy : (spL ps (cn s))[j]? = some (cn f) := by
                have h1 := congrArg (fun l => l[j]?) Hcs.out
                simp only [List.getElem?_map, hf, Option.map_some, List.getElem?_take] at h1
                rw [if_pos (by omega)] at h1
                exact h1.symm
              have hst := spL_step ps (cn s) j (cn f) B hy hB
              have Hst := Lib.hid hst
              clear hc hkl hB hR hy hst hf
              have y1 : (0 : Int) ≤ (j : Int) := by omega
              have y2 : (j : Int) < (k : Int) := by omega
              have y3 : (j : Int) < (j : Int) + 1 := by omega
              have hgz := (own_base Hown.out g rfl).2
              go_wp2_with fail
              go_region_law (first
                | (refine step_append_lies _ (by rfl) (.tmp 37) (.tmp 46) _ (by rfl) w.heap.size 24 i0 _ 1 4 Try.underlying49 Hi.out hz0 hz1 hz2 (by rfl) (by omega) _ (j + 1) _ (by rfl) (O1.out.alloc _) _ 1 _ [_] (by rfl) (by rfl) (World.news_of_block (cs := #[_]) (heap_alloc_new _ _)) (by intro u hu; simp at hu; subst hu; rfl) (by omega) (by unfold maxLen; omega) (by omega) (by have := B1.out.size; simp; omega) _ (by rfl) ?_; intro g2 cap2 w9 hown9 hgrow9 hat9 hlt9)
                | (go_simp; go_at_call 51; refine (outAt_any B _ _ _ _ _ (by exact HR.out)).mono ?_; rintro e w1 ⟨r, rfl, hr, b1⟩; have O1 : Hid (w1.ownsRow w.heap.size 24 1 (.slice (some ⟨g, 0, none⟩) (j + 1) cp) (j + 1) (fs.map (Value.float .f32))) := own_below (w := wr.drew) Hown.out.drew b1; have B1 : Hid (Below w.heap.size w w1) := b_then (b_drew Hbb.out) b1; have Hr := Lib.hid hr; clear hr b1; dsimp only))
              all_goals
                have B9 : Hid (Below w.heap.size w w9) := (B1.out.alloc B1.out.size _).grown hgrow9 (by have := B1.out.size; simp; omega) (fun k h => by cases h; exact hg)
                have O9 : Hid (w9.ownsRow w.heap.size 24 1 (.slice (some ⟨g2, 0, none⟩) (j + 1 + 1) cap2) (j + 1 + 1) ((fs ++ [r]).map (Value.float .f32))) := by
                  rw [List.map_append]
                  exact hown9
                have e9 : Hid ((fs ++ [r]).map cn = (spL ps (cn s)).take (j + 1 + 1)) := take_snoc Hcs.out (by rw [Hst.out]; exact congrArg some (Hr.out : cn r = _).symm)
                have l9 : Hid ((fs ++ [r]).length = j + 1 + 1) := by rw [List.length_append, Hfl.out]; rfl
                clear hown9 hgrow9 hat9 hlt9 d0
                go_wp2
                go_roundw
                case rel => exact ⟨j + 1, fs ++ [r], by omega, by go_num, O9.out, e9.out, l9.out, B9.out⟩
                case measure => simp [intOf]; omega
            · have hjk : j = k := by omega
              subst hjk
              have hz : fs.map cn = spL ps (cn s) := by have := Hcs.out; rwa [List.take_of_length_le (by rw [spL_len, Hl.out]; exact Nat.le_refl _)] at this
              have Hz := Lib.hid hz; clear hz
              go_wp2
              go_ret2
              rw [E1.out, E2.out, ← Hz.out]
              exact flc_of_row Hown.out Hbb.out
      · have e1 : spK ps s = 2 := by unfold spK; rw [Ha.out, h1]; rfl
        have E1 := Lib.hid e1; clear e1
        go_wp2_with (go_at_call 50; refine (l01Plain_any _ _).mono ?_; rintro e w1 ⟨rfl, rfl⟩)
        go_ret2
        rw [sp_err E1.out (by decide), E1.out]
        exact flc_of_row (fs := []) (own_empty _ _ _ _ Hb.out.size) (b_alloc Hb.out _)
set_option maxRecDepth 100000 in
set_option maxHeartbeats 4000000 in
theorem implSp_any (A : Option Addr) (n c : Nat) (ps : List Bl) (s : Nat) (w : World) (hl : ps.length = n) (hn : n ≤ 1048576) (hT : Bl.L w w.heap.size A ps) :
    Calls Try.prog 29 #[.slice A n c, .float .f32 s] w (FLC (spT ps s) (spK ps s) w) := by
  obtain ⟨i0, hi, hz0, hz1, hz2⟩ := info_parts infoF32
  have Hi := Lib.hid hi
  have Hl := Lib.hid hl; clear hl
  have HT := Lib.hid hT; clear hT
  rcases Bool.eq_false_or_eq_true (allOk ps) with ha | ha
  · rcases Bool.eq_false_or_eq_true (plB s) with h1 | h1
    · by_cases h12 : 12 < n
      · have z1 : (12 : Int) < (n : Int) := by omega
        have e1 : spK ps s = 3 := by unfold spK; rw [ha, h1, Hl.out]; simp [h12]
        have E1 := Lib.hid e1; have Ha := Lib.hid ha; clear e1 ha
        go_enter Try.func29, Try.ntmps29
        go_wp2_with (first | (go_at_call 52; refine (areBelts_any _ _ _ ps _ Hl.out hn HT.out).mono ?_; rintro e w1 ⟨rfl, b1⟩; rw [Ha.out]) | (go_at_call 53; refine (plain_any _ _).mono ?_; rintro e w1 ⟨rfl, rfl⟩))
        go_ret2
        rw [sp_err E1.out (by decide), E1.out]
        exact flc_of_row (fs := []) (World.ownsRow_nil _ _ _ _) b1
      · have z1 : ¬ (12 : Int) < (n : Int) := by omega
        have e1 : spK ps s = 0 := by unfold spK; rw [ha, h1, Hl.out]; simp [h12]
        have e2 : spT ps s = spL ps (cn s) := by unfold spT; rw [e1]; rfl
        have E1 := Lib.hid e1; have E2 := Lib.hid e2; have Ha := Lib.hid ha
        clear e1 e2 ha
        go_enter Try.func29, Try.ntmps29
        go_wp2_with (first
          | (go_at_call 52; refine (areBelts_any _ _ _ ps _ Hl.out hn HT.out).mono ?_; rintro e w1 ⟨rfl, b1⟩; rw [Ha.out]; have B1 := Lib.hid b1; clear b1)
          | (go_at_call 53; refine (plain_any _ _).mono ?_; rintro e w4 ⟨rfl, rfl⟩)
          | (at_make; refine wpList_make_own _ rfl _ _ 49 rfl w.heap.size 24 i0 _ 1 Try.underlying49 hi hz0 hz1 _ _ _ (n + 1) rfl rfl (by omega) (by rw [hz2]; omega) (by unfold maxLen; omega) B1.out.size ?_; intro w2 hown hgrow; have B2 : Hid (Below w.heap.size w w2) := B1.out.grown hgrow B1.out.size (fun k h => by cases h); have Ho := Lib.hid hown; have hsz2 := (own_base hown _ rfl).2; clear hown hgrow)
          | (at_builtin; refine wpList_append_own _ rfl (.tmp 22) (.tmp 24) 49 rfl w.heap.size 24 i0 _ 1 4 Try.underlying49 hi hz0 hz1 hz2 rfl (by omega) _ 0 [] rfl (Ho.out.alloc _) _ 1 _ [.float .f32 s] rfl rfl (World.news_of_block (cs := #[_]) (heap_alloc_new _ _)) (by intro u hu; simp at hu; subst hu; rfl) (by unfold maxLen; omega) (by omega) (by have := B2.out.size; simp; omega) ?_; intro v3 w3 hown3 hgrow3 hif3; have B3 : Hid (Below w.heap.size w w3) := (b_alloc B2.out _).grown hgrow3 (by have := B2.out.size; simp; omega) (fun k h => by cases h; exact B1.out.size); have O3 := Lib.hid hown3; clear hown3 hgrow3 hif3))
        go_loopw [1, 6, 28] (fun sv v i wr => ∃ (j : Nat) (fs : List Nat) (f : Nat), j ≤ n ∧ i = .int .i64 j ∧ sv = .float .f32 f ∧ (spL ps (cn s))[j]? = some (cn f) ∧ wr.ownsRow w.heap.size 24 1 v (j + 1) (fs.map (Value.float .f32)) ∧ fs.map cn = (spL ps (cn s)).take (j + 1) ∧ fs.length = j + 1 ∧ Below w.heap.size w wr) (fun _ _ i _ => n - (intOf i).toNat)
        case atStart => exact ⟨0, [s], s, Nat.zero_le _, rfl, rfl, spL_zero _ _, O3.out, by rw [List.take_add_one, spL_zero]; rfl, rfl, B3.out⟩
        case round =>
          obtain ⟨j, fs, f, hj, rfl, rfl, hy, hown, hcs, hfl, hbb⟩ := hrel
          have Hown := Lib.hid hown; have Hcs := Lib.hid hcs; have Hfl := Lib.hid hfl; have Hbb := Lib.hid hbb; have Hy := Lib.hid hy
          clear hown hcs hfl hbb hy
          by_cases hlt : j < n
          · have hkl : j < ps.length := by have := Hl.out; omega
            obtain ⟨b, off, rfl, hbs, hc⟩ := HT.out (by omega)
            obtain ⟨B, hB⟩ : ∃ B, ps[j]? = some B := ⟨_, List.getElem?_eq_getElem hkl⟩
            obtain ⟨c0, c1, c2, c3, c4⟩ := Bl.at (rangeAt_of_block (hc j B hB) (Hbb.out.block b hbs))
            have hst := spL_step ps (cn s) j (cn f) B Hy.out hB
            have Hst := Lib.hid hst
            have hba := own_base Hown.out
            have Hba := Lib.hid hba
            clear hc hkl hB hst hba
            go_wp2_with (first
              | (go_at_call 54; refine (implOut_any B _ _ _).mono ?_; rintro e w5 ⟨r, rfl, hr, b5⟩; have B5 : Hid (Below w.heap.size w w5) := b_then (b_alloc Hbb.out _) b5; have O5 : Hid (w5.ownsRow w.heap.size 24 1 _ (j + 1) (fs.map (Value.float .f32))) := own_below (Hown.out.alloc _) b5; have Hr := Lib.hid hr; clear hr b5)
              | (at_builtin; refine wpList_append_own _ rfl (.tmp 35) (.tmp 37) 49 rfl w.heap.size 24 i0 _ 1 4 Try.underlying49 hi hz0 hz1 hz2 rfl (by omega) _ (j + 1) _ rfl (O5.out.alloc _) _ 1 _ [_] rfl rfl (World.news_of_block (cs := #[_]) (heap_alloc_new _ _)) (by intro u hu; simp at hu; subst hu; rfl) (by unfold maxLen; omega) (by omega) (by have := B5.out.size; simp; omega) ?_; intro v9 w9 hown9 hgrow9 hif9))
            all_goals
              have B9 : Hid (Below w.heap.size w w9) := (B5.out.alloc B5.out.size _).grown hgrow9 (by have := B5.out.size; simp; omega) (fun k h => (Hba.out k h).1)
              have O9 : Hid (w9.ownsRow w.heap.size 24 1 v9 (j + 1 + 1) ((fs ++ [r]).map (Value.float .f32))) := by
                rw [List.map_append]
                exact hown9
              have y9 : Hid ((spL ps (cn s))[j + 1]? = some (cn r)) := by rw [Hst.out]; exact congrArg some (Hr.out : cn r = _).symm
              have e9 : Hid ((fs ++ [r]).map cn = (spL ps (cn s)).take (j + 1 + 1)) := take_snoc Hcs.out y9.out
              have l9 : Hid ((fs ++ [r]).length = j + 1 + 1) := by rw [List.length_append, Hfl.out]; rfl
              clear hown9 hgrow9 hif9 c0 c1 c2 c3 c4
              go_wp2
              go_roundw
              case rel => exact ⟨j + 1, fs ++ [r], r, by omega, by go_num, rfl, y9.out, O9.out, e9.out, l9.out, B9.out⟩
              case measure => simp [intOf]; omega
          · have hjk : j = n := by omega
            subst hjk
            have hz : fs.map cn = spL ps (cn s) := by have := Hcs.out; rwa [List.take_of_length_le (by rw [spL_len, Hl.out]; exact Nat.le_refl _)] at this
            have Hz := Lib.hid hz; clear hz
            go_wp2
            go_ret2
            rw [E1.out, E2.out, ← Hz.out]
            exact flc_of_row Hown.out Hbb.out
    · have e1 : spK ps s = 2 := by unfold spK; rw [ha, h1]; rfl
      have E1 := Lib.hid e1; have Ha := Lib.hid ha; clear e1 ha
      go_enter Try.func29, Try.ntmps29
      go_wp2_with (first | (go_at_call 52; refine (areBelts_any _ _ _ ps _ Hl.out hn HT.out).mono ?_; rintro e w1 ⟨rfl, b1⟩; rw [Ha.out]) | (go_at_call 53; refine (plain_any _ _).mono ?_; rintro e w1 ⟨rfl, rfl⟩))
      go_ret2
      rw [sp_err E1.out (by decide), E1.out]
      exact flc_of_row (fs := []) (World.ownsRow_nil _ _ _ _) b1
  · have e1 : spK ps s = 1 := by unfold spK; rw [ha]; rfl
    have E1 := Lib.hid e1; have Ha := Lib.hid ha; clear e1 ha
    go_enter Try.func29, Try.ntmps29
    go_wp2_with (go_at_call 52; refine (areBelts_any _ _ _ ps _ Hl.out hn HT.out).mono ?_; rintro e w1 ⟨rfl, b1⟩; rw [Ha.out])
    go_ret2
    rw [sp_err E1.out (by decide), E1.out]
    exact flc_of_row (fs := []) (World.ownsRow_nil _ _ _ _) b1
end Go.Proofs.Ytolbacgfcobmdaa
