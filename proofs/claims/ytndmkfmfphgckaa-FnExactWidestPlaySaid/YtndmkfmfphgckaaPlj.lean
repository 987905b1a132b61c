/-
  WidestPlay: both sides.
-/
import Derived.Test.YtndmkfmfphgckaaPli
namespace Go.Proofs.Ytndmkfmfphgckaa
open Go.RowKit Go.ChangeShapes Go.WideShapes Go.Deep
attribute [local go_sem ↓] Go.wp_at_zero Go.wp_at_succ
set_option linter.unusedVariables false
set_option linter.unusedSimpArgs false
set_option maxRecDepth 100000
theorem oLt_irr (x : Nat) : oLt x x = false := by
  unfold oLt
  cases h : nan32 x
  · rw [ord_rk h h, show compare (rk x) (rk x) = .eq from Int.compare_eq_eq.2 rfl]
    rfl
  · cases ho : FloatKind.f32.format.order x x with
    | none => rfl
    | some o => have := (not_nan_of_order ho).1; rw [h] at this; cases this
theorem wid_step (ps : List Px) (fs : List Nat) : ∀ j, widP ps fs j = if oLt (lessP ps fs j) (widP ps fs (j - 1)).2 then (j, lessP ps fs j) else widP ps fs (j - 1)
  | 0 => by rw [show (widP ps fs (0 - 1)) = (0, lessP ps fs 0) from rfl, oLt_irr]; rfl
  | k + 1 => rfl
theorem wid_yes {ps : List Px} {fs : List Nat} {j : Nat} (h : oLt (lessP ps fs j) (widP ps fs (j - 1)).2 = true) : widP ps fs j = (j, lessP ps fs j) := by rw [wid_step, h]; rfl
theorem wid_no {ps : List Px} {fs : List Nat} {j : Nat} (h : oLt (lessP ps fs j) (widP ps fs (j - 1)).2 = false) : widP ps fs j = widP ps fs (j - 1) := by rw [wid_step, h]; rfl
def widA (ps : List Px) (fs : List Nat) : Int := if codeL ps [fs] = 0 then ((widP ps fs (ps.length - 1)).1 : Int) else 0
def widB (ps : List Px) (fs : List Nat) : Nat := if codeL ps [fs] = 0 then (widP ps fs (ps.length - 1)).2 else cn 0
set_option maxHeartbeats 4000000 in
theorem implWidest_any (A A' : Option Addr) (n n' c c' : Nat) (ps : List Px) (fs : List Nat) (w : World) (hl : ps.length = n) (hl' : fs.length = n') (hn : n ≤ 1048576) (hn' : n' ≤ 1048576) (hT : Px.L w w.heap.size A ps) (hw : ∀ p ∈ ps, p.wf) (hT' : Fo w w.heap.size A' fs) :
    Calls Try.prog 47 #[.slice A n c, .slice A' n' c'] w (RIFC (widA ps fs) (widB ps fs) (codeL ps [fs]) w) := by
  obtain ⟨K, hK⟩ : ∃ K, codeL ps [fs] = K := ⟨_, rfl⟩
  have hb0 : Below w.heap.size w (w.alloc (.cells #[.slice A' n' c'] 45)) := b_alloc (Below.refl _ _) _
  have ha := playsError_any A n c ps w.heap.size 1 1 [⟨A', n', c', fs⟩] _ hl rfl hn (by omega) (hT.keep hb0) hw (fvs_one w ⟨A', n', c', fs⟩ 45) (fun x hx => by simp at hx; subst hx; exact ⟨hl', hn', hT'.keep hb0⟩)
  clear hb0
  rw [show [(⟨A', n', c', fs⟩ : Fv)].map (·.fs) = [fs] from rfl, hK] at ha
  have HK := Lib.hid (codeL_cases hK)
  have H0 := Lib.hid (fun h : K = 0 => codeL_zero (hK.trans h))
  have HA := Lib.hid ha
  have Hl := Lib.hid hl; have Hl' := Lib.hid hl'; have HT := Lib.hid hT; have HT' := Lib.hid hT'
  rw [hK]
  obtain ⟨a, ha2⟩ : ∃ L, widA ps fs = L := ⟨_, rfl⟩
  obtain ⟨b, hb2⟩ : ∃ L, widB ps fs = L := ⟨_, rfl⟩
  rw [ha2, hb2]
  have A0 := Lib.hid (fun h : K = 0 => show a = ((widP ps fs (n - 1)).1 : Int) by rw [← ha2, ← hl]; unfold widA; rw [if_pos (hK.trans h)])
  have B0 := Lib.hid (fun h : K = 0 => show b = (widP ps fs (n - 1)).2 by rw [← hb2, ← hl]; unfold widB; rw [if_pos (hK.trans h)])
  have A1 := Lib.hid (fun h : K ≠ 0 => show a = 0 by rw [← ha2]; unfold widA; rw [if_neg (by rw [hK]; exact h)])
  have BB1 := Lib.hid (fun h : K ≠ 0 => show b = cn 0 by rw [← hb2]; unfold widB; rw [if_neg (by rw [hK]; exact h)])
  clear ha hK hl hl' hT hT' hw ha2 hb2
  go_enter Try.func47, Try.ntmps47
  go_wp2_with fail
  refine HA.out.mono ?_
  rintro e w1 ⟨rfl, b1⟩
  have B1 : Hid (Below w.heap.size w w1) := b_then (b_alloc (Below.refl _ _) _) b1
  clear b1
  rcases HK.out with rfl | rfl | rfl
  · obtain ⟨ho, hfs⟩ := H0.out rfl
    have hsz := size_bounds ho
    have hnn : n' = n := by rw [← Hl'.out, ← Hl.out]; exact hfs fs (by simp)
    have h1n : 1 ≤ n := by rw [← Hl.out]; exact hsz.1
    subst hnn
    have EA := Lib.hid (A0.out (by trivial)); have EB := Lib.hid (B0.out (by trivial))
    clear ho hfs hsz A0 B0 A1 BB1 H0
    go_wp2_with fail
    refine (playWithout_any _ _ n' _ _ 0 ps fs _ Hl.out Hl'.out (by omega) hn (HT.out.keep B1.out) (HT'.out.keep B1.out)).mono ?_
    rintro e w2 ⟨r0, rfl, hr0, b2⟩
    have Hr0 := Lib.hid hr0
    have B2 : Hid (Below w.heap.size w w2) := b_then B1.out b2
    clear hr0 b2
    go_wp2
    go_loopw [8, 9, 10, 11, 24] (fun v8 v9 v10 v11 i wr => ∃ j m r : Nat, j ≤ n' ∧ i = .int .i64 j ∧ v8 = .int .i64 m ∧ v9 = .float .f32 r ∧ Hid (m = (widP ps fs (j - 1)).1) ∧ Hid (CN r (widP ps fs (j - 1)).2) ∧ Hid (Below w.heap.size w wr)) (fun _ _ _ _ i _ => n' - (intOf i).toNat)
    case atStart => exact ⟨0, 0, r0, Nat.zero_le _, rfl, rfl, rfl, rfl, Hr0, B2⟩
    case round =>
      obtain ⟨j, m, r, hj, rfl, rfl, rfl, hm, hr, hb⟩ := hrel
      by_cases hlt : j < n'
      · go_wp2_with fail
        refine (playWithout_any _ _ n' _ _ j ps fs _ Hl.out Hl'.out hlt hn (HT.out.keep hb.out) (HT'.out.keep hb.out)).mono ?_
        rintro e w3 ⟨r2, rfl, hr2, b3⟩
        have HR := Lib.hid hr2
        have B3 : Hid (Below w.heap.size w w3) := b_then hb.out b3
        have hlt2 : oLt r2 r = oLt (lessP ps fs j) (widP ps fs (j - 1)).2 := by
          have e1 : cn r2 = lessP ps fs j := hr2
          have e2 : cn r = (widP ps fs (j - 1)).2 := hr.out
          exact (oLt_cn (x := r2) (y := r) (x' := lessP ps fs j) (y' := (widP ps fs (j - 1)).2) (by rw [← e1, cn_cn]) (by rw [← e2, cn_cn]))
        clear hr2 b3
        obtain ⟨t, ht⟩ : ∃ t, oLt r2 r = t := ⟨_, rfl⟩
        have HT2 := Lib.hid (hlt2.symm.trans ht)
        clear hlt2
        cases t
        · have g1 := ((tf_lt ht).2 rfl).1; have g2 := ((tf_lt ht).2 rfl).2
          have hw := Lib.hid (wid_no HT2.out)
          clear ht
          go_wp2
          go_roundw
          case rel => exact ⟨j + 1, m, r, by omega, by go_num, rfl, rfl, by show _ = _; rw [Nat.add_sub_cancel, hw.out]; exact hm.out, by show CN _ _; rw [Nat.add_sub_cancel, hw.out]; exact hr.out, B3⟩
          case measure => simp [intOf]; omega
        · have g1 := (tf_lt ht).1 rfl
          have hw := Lib.hid (wid_yes HT2.out)
          clear ht
          go_wp2
          go_roundw
          case rel => exact ⟨j + 1, j, r2, by omega, by go_num, rfl, rfl, by show _ = _; rw [Nat.add_sub_cancel, hw.out], by show CN _ _; rw [Nat.add_sub_cancel, hw.out]; exact HR.out, B3⟩
          case measure => simp [intOf]; omega
      · obtain rfl : j = n' := by omega
        go_wp2
        go_ret3
        refine ⟨_, by rw [EA.out, ← hm.out]; rfl, ?_, hb.out⟩
        rw [EB.out]
        exact hr.out
  all_goals
    have EA := Lib.hid (A1.out (by first | trivial | decide)); have EB := Lib.hid (BB1.out (by first | trivial | decide))
    clear A0 B0 A1 BB1 H0
    go_wp2
    go_ret3
    refine ⟨_, by rw [EA.out]; rfl, ?_, B1.out⟩
    rw [EB.out]
    exact cn_lit _
set_option maxHeartbeats 4000000 in
theorem specWidest_any (A A' : Option Addr) (n n' c c' : Nat) (ps : List Px) (fs : List Nat) (w : World) (hl : ps.length = n) (hl' : fs.length = n') (hn : n ≤ 1048576) (hn' : n' ≤ 1048576) (hT : Px.L w w.heap.size A ps) (hw : ∀ p ∈ ps, p.wf) (hT' : Fo w w.heap.size A' fs) :
    Calls Try.prog 46 #[.slice A n c, .slice A' n' c'] w (RIFC (widA ps fs) (widB ps fs) (codeL ps [fs]) w) := by
  obtain ⟨K, hK⟩ : ∃ K, codeL ps [fs] = K := ⟨_, rfl⟩
  have ha := l06Asked_any A A' n n' c c' ps fs w hl hl' hn hn' hT hw hT'
  rw [hK] at ha
  have HK := Lib.hid (codeL_cases hK)
  have H0 := Lib.hid (fun h : K = 0 => codeL_zero (hK.trans h))
  have HA := Lib.hid ha
  have Hl := Lib.hid hl; have Hl' := Lib.hid hl'; have HT := Lib.hid hT; have HT' := Lib.hid hT'
  rw [hK]
  obtain ⟨a, ha2⟩ : ∃ L, widA ps fs = L := ⟨_, rfl⟩
  obtain ⟨b, hb2⟩ : ∃ L, widB ps fs = L := ⟨_, rfl⟩
  rw [ha2, hb2]
  have A0 := Lib.hid (fun h : K = 0 => show a = ((widP ps fs (n - 1)).1 : Int) by rw [← ha2, ← hl]; unfold widA; rw [if_pos (hK.trans h)])
  have B0 := Lib.hid (fun h : K = 0 => show b = (widP ps fs (n - 1)).2 by rw [← hb2, ← hl]; unfold widB; rw [if_pos (hK.trans h)])
  have A1 := Lib.hid (fun h : K ≠ 0 => show a = 0 by rw [← ha2]; unfold widA; rw [if_neg (by rw [hK]; exact h)])
  have BB1 := Lib.hid (fun h : K ≠ 0 => show b = cn 0 by rw [← hb2]; unfold widB; rw [if_neg (by rw [hK]; exact h)])
  clear ha hK hl hl' hT hT' hw ha2 hb2
  go_enter Try.func46, Try.ntmps46
  go_wp2_with fail
  refine HA.out.mono ?_
  rintro e w1 ⟨rfl, rfl⟩
  have B1 : Hid (Below w.heap.size w w) := Below.refl _ _
  rcases HK.out with rfl | rfl | rfl
  · obtain ⟨ho, hfs⟩ := H0.out rfl
    have hsz := size_bounds ho
    have hnn : n' = n := by rw [← Hl'.out, ← Hl.out]; exact hfs fs (by simp)
    have h1n : 1 ≤ n := by rw [← Hl.out]; exact hsz.1
    subst hnn
    have EA := Lib.hid (A0.out (by trivial)); have EB := Lib.hid (B0.out (by trivial))
    clear ho hfs hsz A0 B0 A1 BB1 H0
    obtain ⟨i0, hi, hz0, hz1, hz2⟩ := info_parts infoF32
    go_wp2
    go_loopw [8, 9, 10, 11, 12] (fun v8 v9 i v11 v12 wr => ∃ j m r : Nat, j ≤ n' ∧ i = .int .i64 j ∧ v8 = .int .i64 m ∧ v9 = .float .f32 r ∧ Hid (0 < j → m = (widP ps fs (j - 1)).1 ∧ CN r (widP ps fs (j - 1)).2) ∧ Hid (Below w.heap.size w wr)) (fun _ _ i _ _ _ => n' - (intOf i).toNat)
    case atStart => exact ⟨0, 0, 0, Nat.zero_le _, rfl, rfl, rfl, fun h => absurd h (by omega), B1⟩
    case round =>
      obtain ⟨j, m, r, hj, rfl, rfl, rfl, hm, hb⟩ := hrel
      by_cases hlt : j < n'
      · obtain ⟨b', off, rfl, hbs, hc⟩ := HT'.out (by have := Hl'.out; omega)
        have N1 : Hid (∀ q u, (fs.map (Value.float .f32))[q]? = some u → (wr.alloc (.cells #[] 22)).cell? ((⟨b', off, none⟩ : Addr).add q) = some u) := flN_news fun i f hf => (World.cell?_of_block (a := ⟨b', off + i, none⟩) ((hb.out.alloc hb.out.size _).block b' hbs)).trans (hc i f hf)
        clear hc
        have z1 : (0 : Int) ≤ (j : Int) := by omega
        have z2 : (j : Int) < (n' : Int) := by omega
        go_wp2_with (at_builtin; refine wpList_append_own _ rfl _ _ 45 rfl w.heap.size 22 i0 _ 1 4 Try.underlying45 hi hz0 hz1 hz2 rfl (by omega) _ 0 [] rfl (own_empty _ _ _ _ hb.out.size) _ n' _ (fs.map (Value.float .f32)) rfl (by simp; exact Hl'.out) N1.out (by intro u hu; obtain ⟨f, _, rfl⟩ := List.mem_map.1 hu; rfl) (by unfold maxLen; omega) (by omega) (by have := hb.out.size; simp; omega) ?_; intro v9 w9 hown9 hgrow9 hif9; have B9 : Hid (Below w.heap.size w w9) := (hb.out.alloc hb.out.size _).grown hgrow9 (by have := hb.out.size; simp; omega) (fun k h => by cases h; exact hb.out.size); rw [Nat.zero_add, List.nil_append] at hown9; obtain ⟨g, cp, rfl, hgb⟩ := row_form hown9 (by omega); have hth := there_of_own hown9; have hgs := (own_base hown9 _ rfl).2; have hcs : ∀ i f, fs[i]? = some f → w9.cell? ⟨g, i, none⟩ = some (.float .f32 f) := fun i f hf => (hown9.cellAt i (by have := (List.getElem?_eq_some_iff.1 hf).1; have := Hl'.out; omega)).trans (by rw [List.getElem?_map, hf]; rfl); have HF := Lib.hid (fo_set Hl'.out hth hcs hlt hgs 0); obtain ⟨e1, fz⟩ := hth j hlt; rw [Nat.zero_add] at e1 fz; obtain ⟨v1, d1⟩ := Option.isSome_iff_exists.1 e1; have B2 : Hid (Below w.heap.size w (w9.setCell ⟨g, j, none⟩ (.float .f32 0))) := below_setCells B9.out hgb [_] j; have Hls : Hid ((fs.set j 0).length = n') := (List.length_set ..).trans Hl'.out; clear hown9 hgrow9 hif9 hth hcs e1)
        all_goals
          refine (l06Last_any _ _ n' _ _ ps (fs.set j 0) _ Hl.out Hls.out h1n hn (HT.out.keep B2.out) HF.out).mono ?_
          rintro e w3 ⟨r2, rfl, hr2, b3⟩
          have HR : Hid (CN r2 (lessP ps fs j)) := by show CN _ _; unfold lessP lastP; rw [Hl.out]; exact hr2
          have B3 : Hid (Below w.heap.size w w3) := b_then B2.out b3
          clear hr2 b3 d1 fz
          cases j with
          | zero =>
            go_wp2
            go_roundw
            case rel => exact ⟨0 + 1, 0, r2, by omega, by go_num, rfl, rfl, fun _ => ⟨rfl, HR.out⟩, B3⟩
            case measure => simp [intOf]; omega
          | succ q =>
            obtain ⟨hm1, hm2⟩ := hm.out (by omega)
            have hlt2 : oLt r2 r = oLt (lessP ps fs (q + 1)) (widP ps fs (q + 1 - 1)).2 := by
              have e1 : cn r2 = lessP ps fs (q + 1) := HR.out
              have e2 : cn r = (widP ps fs (q + 1 - 1)).2 := hm2
              exact (oLt_cn (x := r2) (y := r) (x' := lessP ps fs (q + 1)) (y' := (widP ps fs (q + 1 - 1)).2) (by rw [← e1, cn_cn]) (by rw [← e2, cn_cn]))
            have Hm1 := Lib.hid hm1; have Hm2 := Lib.hid hm2
            clear hm1 hm2
            have u1 : ¬ ((q : Int) + 1 = 0) := by omega
            have u2 : (((q + 1 : Nat) : Int) == 0) = false := by simp; omega
            obtain ⟨t, ht⟩ : ∃ t, oLt r2 r = t := ⟨_, rfl⟩
            have HT2 := Lib.hid (hlt2.symm.trans ht)
            clear hlt2
            cases t
            · have g1 := ((tf_lt ht).2 rfl).1; have g2 := ((tf_lt ht).2 rfl).2
              have hw := Lib.hid (wid_no HT2.out)
              clear ht
              go_wp2
              go_roundw
              case rel => exact ⟨q + 1 + 1, m, r, by omega, by go_num, rfl, rfl, fun _ => by rw [Nat.add_sub_cancel, hw.out]; exact ⟨Hm1.out, Hm2.out⟩, B3⟩
              case measure => simp [intOf]; omega
            · have g1 := (tf_lt ht).1 rfl
              have hw := Lib.hid (wid_yes HT2.out)
              clear ht
              go_wp2
              go_roundw
              case rel => exact ⟨q + 1 + 1, q + 1, r2, by omega, by go_num, by go_num, rfl, fun _ => by rw [Nat.add_sub_cancel, hw.out]; exact ⟨rfl, HR.out⟩, B3⟩
              case measure => simp [intOf]; omega
      · obtain rfl : j = n' := by omega
        obtain ⟨hm1, hm2⟩ := hm.out (by omega)
        have Hm1 := Lib.hid hm1; have Hm2 := Lib.hid hm2
        clear hm1 hm2
        go_wp2
        go_ret3
        refine ⟨_, by rw [EA.out, ← Hm1.out]; rfl, ?_, hb.out⟩
        rw [EB.out]
        exact Hm2.out
  all_goals
    have EA := Lib.hid (A1.out (by first | trivial | decide)); have EB := Lib.hid (BB1.out (by first | trivial | decide))
    clear A0 B0 A1 BB1 H0
    go_wp2
    go_ret3
    refine ⟨_, by rw [EA.out]; rfl, ?_, B1.out⟩
    rw [EB.out]
    exact cn_lit _
end Go.Proofs.Ytndmkfmfphgckaa
