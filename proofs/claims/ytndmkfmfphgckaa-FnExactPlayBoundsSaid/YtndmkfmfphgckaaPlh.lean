/-
  PlayBounds: both sides.
-/
import Derived.Test.YtndmkfmfphgckaaPle
import Derived.Test.YtndmkfmfphgckaaMc
import Derived.Deep.RegionLaw
namespace Go.Proofs.Ytndmkfmfphgckaa
open Go.RowKit Go.ChangeShapes Go.WideShapes Go.Deep
attribute [local go_sem ↓] Go.wp_at_zero Go.wp_at_succ
set_option linter.unusedVariables false
set_option linter.unusedSimpArgs false
set_option maxRecDepth 100000
/-- Where a low is greater than the high of its pair, from pair k on. -/
def lowsGt (ls hs : List Nat) (n : Nat) : Nat → Nat → Bool
  | 0, _ => false
  | f + 1, k => if oGt (ls.getD k 0) (hs.getD k 0) then true else lowsGt ls hs n f (k + 1)
def gtB (ls hs : List Nat) (n : Nat) : Bool := lowsGt ls hs n n 0
def codeB2 (ps : List Px) (ls hs : List Nat) : Int := if codeL ps [ls, hs] = 0 then (if gtB ls hs ps.length then 4 else 0) else codeL ps [ls, hs]
def RFFC (a b : Nat) (k : Int) (w : World) (e : Ending) (w' : World) : Prop := ∃ r s, e = .returned (.tuple #[.float .f32 r, .float .f32 s, .int .i64 k]) ∧ CN r a ∧ CN s b ∧ Below w.heap.size w w'
theorem codeL_two {ps : List Px} {ls hs : List Nat} : codeL ps [ls, hs] = if okTr ps then (if okPl ps.length ls && okPl ps.length hs then 0 else 2) else 1 := by
  unfold codeL allPl
  simp
theorem codeL_split (ps : List Px) (ls hs : List Nat) : codeL ps [ls, hs] = if codeL ps [ls] = 0 then (if okPl ps.length hs then 0 else 2) else codeL ps [ls] := by
  rw [codeL_two, codeL_one]
  cases okTr ps <;> cases okPl ps.length ls <;> cases okPl ps.length hs <;> simp
theorem lows_step {ls hs : List Nat} {n k : Nat} (hk : k < n) {l h : Nat} (hl : ls[k]? = some l) (hh : hs[k]? = some h) : lowsGt ls hs n (n - k) k = if oGt l h then true else lowsGt ls hs n (n - (k + 1)) (k + 1) := by
  rw [show n - k = (n - (k + 1)) + 1 by omega, lowsGt, List.getD_eq_getElem?_getD, List.getD_eq_getElem?_getD, hl, hh]
  rfl
theorem bounds_facts (ps : List Px) (ls hs : List Nat) : ∃ (K : Int) (xa xb : Nat), codeB2 ps ls hs = K ∧ (if codeB2 ps ls hs = 0 then lastP ps ls else cn 0) = xa ∧ (if codeB2 ps ls hs = 0 then lastP ps hs else cn 0) = xb ∧
    (codeL ps [ls, hs] ≠ 0 → K = codeL ps [ls, hs] ∧ xa = cn 0 ∧ xb = cn 0) ∧ (codeL ps [ls, hs] = 0 → gtB ls hs ps.length = true → K = 4 ∧ xa = cn 0 ∧ xb = cn 0) ∧ (codeL ps [ls, hs] = 0 → gtB ls hs ps.length = false → K = 0 ∧ xa = lastP ps ls ∧ xb = lastP ps hs) := by
  refine ⟨_, _, _, rfl, rfl, rfl, fun h => ?_, fun h hg => ?_, fun h hg => ?_⟩
  · have e : codeB2 ps ls hs = codeL ps [ls, hs] := by unfold codeB2; rw [if_neg h]
    rw [e, if_neg h, if_neg h]
    exact ⟨rfl, rfl, rfl⟩
  · have e : codeB2 ps ls hs = 4 := by unfold codeB2; rw [if_pos h, hg]; rfl
    rw [e, if_neg (by decide), if_neg (by decide)]
    exact ⟨rfl, rfl, rfl⟩
  · have e : codeB2 ps ls hs = 0 := by unfold codeB2; rw [if_pos h, hg]; rfl
    rw [e, if_pos rfl, if_pos rfl]
    exact ⟨rfl, rfl, rfl⟩
set_option maxHeartbeats 4000000 in
theorem specBounds_any (A A' A2 : Option Addr) (n n' n2 c c' c2 : Nat) (ps : List Px) (ls hs : List Nat) (w : World) (hl : ps.length = n) (hl' : ls.length = n') (hl2 : hs.length = n2) (hn : n ≤ 1048576) (hn' : n' ≤ 1048576) (hn2 : n2 ≤ 1048576) (hT : Px.L w w.heap.size A ps) (hw : ∀ p ∈ ps, p.wf) (hT' : Fo w w.heap.size A' ls) (hT2 : Fo w w.heap.size A2 hs) :
    Calls Try.prog 44 #[.slice A n c, .slice A' n' c', .slice A2 n2 c2] w (RFFC (if codeB2 ps ls hs = 0 then lastP ps ls else cn 0) (if codeB2 ps ls hs = 0 then lastP ps hs else cn 0) (codeB2 ps ls hs) w) := by
  obtain ⟨K, xa, xb, hK, hxa, hxb, fk, gt, okf⟩ := bounds_facts ps ls hs
  rw [hxa, hxb, hK]
  clear hxa hxb hK
  rw [hl] at gt okf
  rw [codeL_split] at fk gt okf
  have hz := fun h : codeL ps [ls] = 0 => codeL_zero h
  have ha := l06Asked_any A A' n n' c c' ps ls w hl hl' hn hn' hT hw hT'
  obtain ⟨t, ht⟩ : ∃ t, okPl n hs = t := ⟨_, rfl⟩
  have hp := l06Plays_is ht A A2 n2 c c2 w hl2 hn hn2 hT2
  have h22 : t = true → n2 = n := fun h => by
    subst h
    unfold okPl at ht
    simp only [Bool.and_eq_true, decide_eq_true_eq] at ht
    rw [← hl2]; exact ht.2
  rw [hl, ht] at fk gt okf
  obtain ⟨C, hC⟩ : ∃ C, codeL ps [ls] = C := ⟨_, rfl⟩
  have HK := Lib.hid (codeL_cases hC)
  rw [hC] at ha fk gt okf hz
  have HA := Lib.hid ha; have HP := Lib.hid hp
  have Hl := Lib.hid hl; have Hl' := Lib.hid hl'; have Hl2 := Lib.hid hl2; have HT := Lib.hid hT; have HT' := Lib.hid hT'; have HT2 := Lib.hid hT2
  have HZ := Lib.hid hz; have FK := Lib.hid fk; have G := Lib.hid gt; have O := Lib.hid okf; have H22 := Lib.hid h22
  clear ha hp hC ht hl hl' hl2 hT hT' hT2 hw hz fk gt okf h22
  have B1 : Hid (Below w.heap.size w w) := Below.refl _ _
  rcases HK.out with rfl | rfl | rfl
  · obtain ⟨ho, hfs⟩ := HZ.out rfl
    have hnn : n' = n := by rw [← Hl'.out, ← Hl.out]; exact hfs ls (by simp)
    subst hnn
    clear hfs
    cases t
    · obtain ⟨e4, ea, eb⟩ := FK.out (by first | decide | simp)
      have E4 : Hid (K = 2) := e4; have EA := Lib.hid ea; have EB := Lib.hid eb
      clear e4 ea eb FK G O HZ H22 ho
      go_enter Try.func44, Try.ntmps44
      go_wp2_with (first | (go_at_call 69; refine HA.out.mono ?_; rintro e w1 ⟨rfl, rfl⟩) | (go_at_call 78; refine HP.out.mono ?_; rintro e w1 ⟨rfl, rfl⟩))
      go_ret3
      refine ⟨_, _, by rw [E4.out]; rfl, ?_, ?_, Below.refl _ _⟩
      · rw [EA.out]; exact cn_lit _
      · rw [EB.out]; exact cn_lit _
    · have hn2n := H22.out rfl
      subst hn2n
      have hsz := size_bounds ho
      have h1n : 1 ≤ n2 := by rw [← Hl.out]; exact hsz.1
      have GT := Lib.hid (G.out (by decide)); have OKF := Lib.hid (O.out (by decide))
      clear hsz ho FK G O HZ H22
      go_enter Try.func44, Try.ntmps44
      go_wp2_with (first | (go_at_call 69; refine HA.out.mono ?_; rintro e w1 ⟨rfl, rfl⟩) | (go_at_call 78; refine HP.out.mono ?_; rintro e w1 ⟨rfl, rfl⟩))
      go_loopw [10] (fun i wr => ∃ k : Nat, k ≤ n2 ∧ i = .int .i64 k ∧ Hid (gtB ls hs n2 = lowsGt ls hs n2 (n2 - k) k) ∧ Hid (Below w.heap.size w wr)) (fun i _ => n2 - (intOf i).toNat)
      case atStart => exact ⟨0, Nat.zero_le _, rfl, rfl, B1⟩
      case round =>
        obtain ⟨k, hk, rfl, hg, hb⟩ := hrel
        by_cases hlt : k < n2
        · have hkl : k < ls.length := by have := Hl'.out; omega
          have hkh : k < hs.length := by have := Hl2.out; omega
          obtain ⟨b, off, rfl, hbs, hc⟩ := HT'.out (by omega)
          obtain ⟨b', off', rfl, hbs', hc'⟩ := HT2.out (by omega)
          obtain ⟨l, hf⟩ : ∃ f, ls[k]? = some f := ⟨_, List.getElem?_eq_getElem hkl⟩
          obtain ⟨h, hf'⟩ : ∃ f, hs[k]? = some f := ⟨_, List.getElem?_eq_getElem hkh⟩
          have c0 := (World.cell?_of_block (a := ⟨b, off + k, none⟩) (hb.out.block b hbs)).trans (hc k l hf)
          have c1 := (World.cell?_of_block (a := ⟨b', off' + k, none⟩) (hb.out.block b' hbs')).trans (hc' k h hf')
          have hg2 : Hid (gtB ls hs n2 = if oGt l h then true else lowsGt ls hs n2 (n2 - (k + 1)) (k + 1)) := hg.out.trans (lows_step hlt hf hf')
          have z1 : (0 : Int) ≤ (k : Int) := by omega
          have z2 : (k : Int) < (n2 : Int) := by omega
          clear hc hc' hkl hkh hf hf' hg
          obtain ⟨t, ht⟩ : ∃ t, oGt l h = t := ⟨_, rfl⟩
          rw [ht] at hg2
          cases t
          · have g1 := ((tf_gt ht).2 rfl).1; have g2 := ((tf_gt ht).2 rfl).2
            have hg3 : Hid (gtB ls hs n2 = lowsGt ls hs n2 (n2 - (k + 1)) (k + 1)) := hg2.out
            clear ht hg2
            go_wp2
            go_region_law (fail)
            all_goals
              go_wp2
              go_roundw
              case rel => exact ⟨k + 1, by omega, by go_num, hg3, by first | exact hb | exact b_drewN hb.out _ | exact b_drew hb.out⟩
              case measure => simp [intOf]; omega
          · have g1 := (tf_gt ht).1 rfl
            obtain ⟨e4, ea, eb⟩ := GT.out (show gtB ls hs n2 = true from hg2.out)
            have E4 := Lib.hid e4; have EA := Lib.hid ea; have EB := Lib.hid eb
            clear ht hg2 e4 ea eb
            go_wp2
            go_region_law (fail)
            all_goals
              go_wp2
              go_ret3
              refine ⟨_, _, by rw [E4.out]; rfl, ?_, ?_, ?_⟩
              · rw [EA.out]; exact cn_lit _
              · rw [EB.out]; exact cn_lit _
              · first | exact hb.out | exact b_drewN hb.out _ | exact b_drew hb.out
        · obtain rfl : k = n2 := by omega
          obtain ⟨e4, ea, eb⟩ := OKF.out (show gtB ls hs k = false from by have := hg.out; rw [Nat.sub_self] at this; exact this)
          have E4 := Lib.hid e4; have EA := Lib.hid (ea.trans (show lastP ps ls = sN (pF ls) (qF ps) (k - 1) by unfold lastP; rw [Hl.out])); have EB := Lib.hid (eb.trans (show lastP ps hs = sN (pF hs) (qF ps) (k - 1) by unfold lastP; rw [Hl.out]))
          clear hg e4 ea eb
          go_wp2_with fail
          refine (l06Last_any _ _ k _ _ ps ls _ Hl.out Hl'.out h1n hn (HT.out.keep hb.out) (HT'.out.keep hb.out)).mono ?_
          rintro e w2 ⟨r, rfl, hr, b2⟩
          have Hr := Lib.hid hr
          have B2 : Hid (Below w.heap.size w w2) := b_then hb.out b2
          clear hr b2
          go_wp2_with fail
          refine (l06Last_any _ _ k _ _ ps hs _ Hl.out Hl2.out h1n hn (HT.out.keep B2.out) (HT2.out.keep B2.out)).mono ?_
          rintro e w3 ⟨s, rfl, hs, b3⟩
          have Hs := Lib.hid hs
          have B3 : Hid (Below w.heap.size w w3) := b_then B2.out b3
          clear hs b3
          go_wp2
          go_ret3
          refine ⟨_, _, by rw [E4.out]; rfl, ?_, ?_, B3.out⟩
          · rw [EA.out]; exact Hr.out
          · rw [EB.out]; exact Hs.out
  all_goals
    obtain ⟨e4, ea, eb⟩ := FK.out (by first | decide | simp)
    have E4 := Lib.hid e4; have EA := Lib.hid ea; have EB := Lib.hid eb
    clear e4 ea eb FK G O HZ H22
    go_enter Try.func44, Try.ntmps44
    go_wp2_with (go_at_call 69; refine HA.out.mono ?_; rintro e w1 ⟨rfl, rfl⟩)
    go_ret3
    refine ⟨_, _, by rw [E4.out]; rfl, ?_, ?_, Below.refl _ _⟩
    · rw [EA.out]; exact cn_lit _
    · rw [EB.out]; exact cn_lit _
set_option maxHeartbeats 4000000 in
theorem implBounds_any (A A' A2 : Option Addr) (n n' n2 c c' c2 : Nat) (ps : List Px) (ls hs : List Nat) (w : World) (hl : ps.length = n) (hl' : ls.length = n') (hl2 : hs.length = n2) (hn : n ≤ 1048576) (hn' : n' ≤ 1048576) (hn2 : n2 ≤ 1048576) (hT : Px.L w w.heap.size A ps) (hw : ∀ p ∈ ps, p.wf) (hT' : Fo w w.heap.size A' ls) (hT2 : Fo w w.heap.size A2 hs) :
    Calls Try.prog 45 #[.slice A n c, .slice A' n' c', .slice A2 n2 c2] w (RFFC (if codeB2 ps ls hs = 0 then lastP ps ls else cn 0) (if codeB2 ps ls hs = 0 then lastP ps hs else cn 0) (codeB2 ps ls hs) w) := by
  obtain ⟨K, xa, xb, hK, hxa, hxb, fk, gt, okf⟩ := bounds_facts ps ls hs
  rw [hxa, hxb, hK]
  clear hxa hxb hK
  rw [hl] at gt okf
  have hb0 : Below w.heap.size w (w.alloc (.cells #[.slice A' n' c', .slice A2 n2 c2] 45)) := b_alloc (Below.refl _ _) _
  have ha := playsError_any A n c ps w.heap.size 2 2 [⟨A', n', c', ls⟩, ⟨A2, n2, c2, hs⟩] _ hl rfl hn (by omega) (hT.keep hb0) hw (fvs_two w ⟨A', n', c', ls⟩ ⟨A2, n2, c2, hs⟩ 45) (fun x hx => by
    simp at hx
    rcases hx with rfl | rfl
    · exact ⟨hl', hn', hT'.keep hb0⟩
    · exact ⟨hl2, hn2, hT2.keep hb0⟩)
  rw [show [(⟨A', n', c', ls⟩ : Fv), ⟨A2, n2, c2, hs⟩].map (·.fs) = [ls, hs] from rfl] at ha
  have hz := fun h : codeL ps [ls, hs] = 0 => codeL_zero h
  obtain ⟨C, hC⟩ : ∃ C, codeL ps [ls, hs] = C := ⟨_, rfl⟩
  have HK := Lib.hid (codeL_cases hC)
  rw [hC] at ha fk gt okf hz
  have HA := Lib.hid ha
  have Hl := Lib.hid hl; have Hl' := Lib.hid hl'; have Hl2 := Lib.hid hl2; have HT := Lib.hid hT; have HT' := Lib.hid hT'; have HT2 := Lib.hid hT2
  have HZ := Lib.hid hz; have FK := Lib.hid fk; have G := Lib.hid gt; have O := Lib.hid okf
  clear ha hC hl hl' hl2 hT hT' hT2 hw hz fk gt okf hb0
  rcases HK.out with rfl | rfl | rfl
  · obtain ⟨ho, hfs⟩ := HZ.out rfl
    have hnn : n' = n := by rw [← Hl'.out, ← Hl.out]; exact hfs ls (by simp)
    have hn2n : n2 = n := by rw [← Hl2.out, ← Hl.out]; exact hfs hs (by simp)
    subst hnn
    subst hn2n
    have hsz := size_bounds ho
    have h1n : 1 ≤ n2 := by rw [← Hl.out]; exact hsz.1
    have GT := Lib.hid (G.out (by decide)); have OKF := Lib.hid (O.out (by decide))
    clear hsz ho hfs FK G O HZ
    go_enter Try.func45, Try.ntmps45
    go_wp2_with (go_at_call 72; refine HA.out.mono ?_; rintro e w1 ⟨rfl, b1⟩; have B1 : Hid (Below w.heap.size w w1) := b_then (b_alloc (Below.refl _ _) _) b1; clear b1)
    go_loopw [10, 11, 22] (fun i10 s11 i wr => ∃ k : Nat, k ≤ n2 ∧ i = .int .i64 k ∧ Hid (gtB ls hs n2 = lowsGt ls hs n2 (n2 - k) k) ∧ Hid (Below w.heap.size w wr)) (fun _ _ i _ => n2 - (intOf i).toNat)
    case atStart => exact ⟨0, Nat.zero_le _, rfl, rfl, B1⟩
    case round =>
      obtain ⟨k, hk, rfl, hg, hb⟩ := hrel
      by_cases hlt : k < n2
      · have hkl : k < ls.length := by have := Hl'.out; omega
        have hkh : k < hs.length := by have := Hl2.out; omega
        obtain ⟨b, off, rfl, hbs, hc⟩ := HT'.out (by omega)
        obtain ⟨b', off', rfl, hbs', hc'⟩ := HT2.out (by omega)
        obtain ⟨l, hf⟩ : ∃ f, ls[k]? = some f := ⟨_, List.getElem?_eq_getElem hkl⟩
        obtain ⟨h, hf'⟩ : ∃ f, hs[k]? = some f := ⟨_, List.getElem?_eq_getElem hkh⟩
        have c0 := (World.cell?_of_block (a := ⟨b, off + k, none⟩) (hb.out.block b hbs)).trans (hc k l hf)
        have c1 := (World.cell?_of_block (a := ⟨b', off' + k, none⟩) (hb.out.block b' hbs')).trans (hc' k h hf')
        have hg2 : Hid (gtB ls hs n2 = if oGt l h then true else lowsGt ls hs n2 (n2 - (k + 1)) (k + 1)) := hg.out.trans (lows_step hlt hf hf')
        have z1 : (0 : Int) ≤ (k : Int) := by omega
        have z2 : (k : Int) < (n2 : Int) := by omega
        clear hc hc' hkl hkh hf hf' hg
        obtain ⟨t, ht⟩ : ∃ t, oGt l h = t := ⟨_, rfl⟩
        rw [ht] at hg2
        cases t
        · have g1 := ((tf_gt ht).2 rfl).1; have g2 := ((tf_gt ht).2 rfl).2
          have hg3 : Hid (gtB ls hs n2 = lowsGt ls hs n2 (n2 - (k + 1)) (k + 1)) := hg2.out
          clear ht hg2
          skip
          all_goals
            go_wp2
            go_roundw
            case rel => exact ⟨k + 1, by omega, by go_num, hg3, by first | exact hb | exact b_drewN hb.out _ | exact b_drew hb.out⟩
            case measure => simp [intOf]; omega
        · have g1 := (tf_gt ht).1 rfl
          obtain ⟨e4, ea, eb⟩ := GT.out (show gtB ls hs n2 = true from hg2.out)
          have E4 := Lib.hid e4; have EA := Lib.hid ea; have EB := Lib.hid eb
          clear ht hg2 e4 ea eb
          skip
          all_goals
            go_wp2
            go_ret3
            refine ⟨_, _, by rw [E4.out]; rfl, ?_, ?_, ?_⟩
            · rw [EA.out]; exact cn_lit _
            · rw [EB.out]; exact cn_lit _
            · first | exact hb.out | exact b_drewN hb.out _ | exact b_drew hb.out
      · obtain rfl : k = n2 := by omega
        obtain ⟨e4, ea, eb⟩ := OKF.out (show gtB ls hs k = false from by have := hg.out; rw [Nat.sub_self] at this; exact this)
        have E4 := Lib.hid e4; have EA := Lib.hid (ea.trans (show lastP ps ls = sN (pF ls) (qF ps) (k - 1) by unfold lastP; rw [Hl.out])); have EB := Lib.hid (eb.trans (show lastP ps hs = sN (pF hs) (qF ps) (k - 1) by unfold lastP; rw [Hl.out]))
        clear hg e4 ea eb
        go_wp2_with fail
        refine (playAt_any _ _ k _ _ ps ls _ Hl.out Hl'.out h1n hn (HT.out.keep hb.out) (HT'.out.keep hb.out)).mono ?_
        rintro e w2 ⟨r, rfl, hr, b2⟩
        have Hr := Lib.hid hr
        have B2 : Hid (Below w.heap.size w w2) := b_then hb.out b2
        clear hr b2
        go_wp2_with fail
        refine (playAt_any _ _ k _ _ ps hs _ Hl.out Hl2.out h1n hn (HT.out.keep B2.out) (HT2.out.keep B2.out)).mono ?_
        rintro e w3 ⟨s, rfl, hs, b3⟩
        have Hs := Lib.hid hs
        have B3 : Hid (Below w.heap.size w w3) := b_then B2.out b3
        clear hs b3
        go_wp2
        go_ret3
        refine ⟨_, _, by rw [E4.out]; rfl, ?_, ?_, B3.out⟩
        · rw [EA.out]; exact Hr.out
        · rw [EB.out]; exact Hs.out
  all_goals
    obtain ⟨e4, ea, eb⟩ := FK.out (by first | decide | simp)
    have E4 := Lib.hid e4; have EA := Lib.hid ea; have EB := Lib.hid eb
    clear e4 ea eb FK G O HZ
    go_enter Try.func45, Try.ntmps45
    go_wp2_with (go_at_call 72; refine HA.out.mono ?_; rintro e w1 ⟨rfl, b1⟩; have B1 : Hid (Below w.heap.size w w1) := b_then (b_alloc (Below.refl _ _) _) b1; clear b1)
    go_ret3
    refine ⟨_, _, by rw [E4.out]; rfl, ?_, ?_, B1.out⟩
    · rw [EA.out]; exact cn_lit _
    · rw [EB.out]; exact cn_lit _
end Go.Proofs.Ytndmkfmfphgckaa
