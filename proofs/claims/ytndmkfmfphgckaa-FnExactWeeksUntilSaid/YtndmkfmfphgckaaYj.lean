/-
  WeeksUntil: both sides and the law.
-/
import Derived.Test.YtndmkfmfphgckaaYh
import Derived.Test.YtndmkfmfphgckaaYg
import Derived.Deep.DeepCutAuto
namespace Go.Proofs.Ytndmkfmfphgckaa
open Go.RowKit Go.ChangeShapes Go.WideShapes Go.Deep
attribute [local go_sem ↓] Go.wp_at_zero Go.wp_at_succ
set_option linter.unusedVariables false
set_option linter.unusedSimpArgs false
set_option maxRecDepth 100000

def weeksF (l lim : Nat) : Nat → Nat → Th → Option Nat
  | 0, _, _ => none
  | f + 1, n, C => if oGt (curW C) lim then some n else weeksF l lim f (n + 1) (wornC C l)
def weeksO (X : Th) (l lim : Nat) : Option Nat := weeksF (cn l) lim 105 0 (cnT X)
def optV (o : Option Nat) : Int := match o with | some n => n | none => 0
def optK (o : Option Nat) : Int := match o with | some _ => 0 | none => 6
def codeU (k : Int) (o : Option Nat) : Int := if k = 0 then optK o else k
def valU (k : Int) (o : Option Nat) : Int := if k = 0 then optV o else 0
theorem curW_cn (T : Th) : curW (cnT T) = cn (curW T) := by
  unfold curW cnT
  dsimp only
  split <;> rfl
theorem oGt_cur (T : Th) (lim : Nat) : oGt (curW (cnT T)) lim = oGt (curW T) lim := oGt_cn (by rw [curW_cn, cn_cn]) rfl
theorem weeks_step {l lim k : Nat} (hk : k < 105) (T : Th) : weeksF l lim (105 - k) k (cnT T) = if oGt (curW T) lim then some k else weeksF l lim (105 - (k + 1)) (k + 1) (wornC (cnT T) l) := by
  rw [show 105 - k = (105 - (k + 1)) + 1 by omega, weeksF, oGt_cur]
theorem worn_side {C : Th} {l : Nat} (h : C.s = 0 ∨ C.s = 1) : (wornC C l).s = 0 ∨ (wornC C l).s = 1 := by
  unfold wornC
  split <;> exact h
theorem is_side {T C : Th} (h : ThIs T C) (hs : C.s = 0 ∨ C.s = 1) : T.s = 0 ∨ T.s = 1 := by
  unfold ThIs at h
  subst h
  exact hs
def CF (lo hi : Nat) := lo + hi

set_option maxHeartbeats 4000000 in
theorem specWeeks_any (X : Th) (l lim : Nat) (wX : (Lit.int .i8 X.s).wf = true) (w : World) : Calls Try.prog 26 #[.agg #[.float .f32 X.h, .float .f32 X.u, .float .f32 X.v, .int .i8 X.s], .float .f32 l, .float .f32 lim] w (RV (.tuple #[.int .i64 (valU (codeT (okT X) (psB l && partB lim)) (weeksO X l lim)), .int .i64 (codeU (codeT (okT X) (psB l && partB lim)) (weeksO X l lim))]) w) := by
  have h0 := Lib.hid (AtTh.new w X)
  have q0 : w.heap.size ≤ w.heap.size := Nat.le_refl _
  have hsz : w.heap.size < (w.alloc (.cells #[.float .f32 X.h, .float .f32 X.u, .float .f32 X.v, .int .i8 X.s] 28)).heap.size := by simp
  obtain ⟨t, ht⟩ : ∃ t, okT X = t := ⟨_, rfl⟩
  obtain ⟨p, hp⟩ : ∃ p, psB l = p := ⟨_, rfl⟩
  obtain ⟨r, hr⟩ : ∃ r, partB lim = r := ⟨_, rfl⟩
  have hv := Lib.hid (fun w => l06Ok_is ht wX w)
  have hq := fun w => l03Amount_any l w
  have hl := fun w => l01Part_any lim w
  have hsd := Lib.hid (fun h : t = true => okT_side (ht.trans h))
  rw [hp] at hq ⊢
  rw [hr] at hl ⊢
  rw [ht]
  have HQ := Lib.hid hq; have HL := Lib.hid hl
  clear ht hp hr wX hq hl
  cases t
  · rw [show codeT false (p && r) = 1 from rfl, show ∀ o, valU 1 o = 0 from fun _ => rfl, show ∀ o, codeU 1 o = 1 from fun _ => rfl]
    go_enter Try.func26, Try.ntmps26
    go_wp2_with (go_at_call 53; refine (hv.out _).mono ?_; rintro e w1 ⟨rfl, b1⟩)
    go_ret2
    refine ⟨rfl, ?_⟩
    (repeat (first | exact Below.refl _ _ | refine b_drewN ?_ _ | refine b_drew ?_ | refine b_alloc ?_ _ | refine b_then ?_ (by assumption)))
  · cases p
    · rw [show codeT true (false && r) = 2 from rfl, show ∀ o, valU 2 o = 0 from fun _ => rfl, show ∀ o, codeU 2 o = 2 from fun _ => rfl]
      go_enter Try.func26, Try.ntmps26
      go_wp2_with (first | (go_at_call 53; refine (hv.out _).mono ?_; rintro e w1 ⟨rfl, b1⟩) | (go_at_call 60; refine (HQ.out _).mono ?_; rintro e w4 ⟨rfl, rfl⟩))
      go_ret2
      refine ⟨rfl, ?_⟩
      (repeat (first | exact Below.refl _ _ | refine b_drewN ?_ _ | refine b_drew ?_ | refine b_alloc ?_ _ | refine b_then ?_ (by assumption)))
    · cases r
      · rw [show codeT true (true && false) = 2 from rfl, show ∀ o, valU 2 o = 0 from fun _ => rfl, show ∀ o, codeU 2 o = 2 from fun _ => rfl]
        go_enter Try.func26, Try.ntmps26
        go_wp2_with (first | (go_at_call 53; refine (hv.out _).mono ?_; rintro e w1 ⟨rfl, b1⟩) | (go_at_call 60; refine (HQ.out _).mono ?_; rintro e w4 ⟨rfl, rfl⟩) | (go_at_call 66; refine (HL.out _).mono ?_; rintro e w4 ⟨rfl, rfl⟩))
        go_ret2
        refine ⟨rfl, ?_⟩
        (repeat (first | exact Below.refl _ _ | refine b_drewN ?_ _ | refine b_drew ?_ | refine b_alloc ?_ _ | refine b_then ?_ (by assumption)))
      · rw [show codeT true (true && true) = 0 from rfl, show ∀ o, valU 0 o = optV o from fun _ => rfl, show ∀ o, codeU 0 o = optK o from fun _ => rfl]
        have HS := Lib.hid (hsd.out rfl)
        clear hsd
        go_enter Try.func26, Try.ntmps26
        go_wp2_with (first | (go_at_call 53; refine (hv.out _).mono ?_; rintro e w1 ⟨rfl, b1⟩; have H1 : Hid (AtTh w1 w.heap.size X) := h0.out.on (by rfl) b1; have B1 : Hid (Below w.heap.size w w1) := b_then (b_alloc (Below.refl _ _) _) b1; clear b1) | (go_at_call 60; refine (HQ.out _).mono ?_; rintro e w4 ⟨rfl, rfl⟩) | (go_at_call 66; refine (HL.out _).mono ?_; rintro e w4 ⟨rfl, rfl⟩))
        clear hv HQ HL h0 hsz
        go_loopw [8] (fun i wr => ∃ (k : Nat) (T : Th), k ≤ 105 ∧ i = .int .i64 k ∧ Hid (T.s = 0 ∨ T.s = 1) ∧ Hid (weeksO X l lim = weeksF (cn l) lim (105 - k) k (cnT T)) ∧ Hid (AtTh wr w.heap.size T) ∧ Hid (Below w.heap.size w wr)) (fun i _ => 105 - (intOf i).toNat)
        case atStart => exact ⟨0, X, by omega, rfl, HS, rfl, H1, B1⟩
        case round =>
          obtain ⟨k, T, hk, rfl, hs, he, h0, hb⟩ := hrel
          have hq : w.heap.size < wr.heap.size := h0.out.lt
          by_cases hlt : k < 105
          · have h9 : (k : Int) ≤ 104 := by omega
            have h8 : (k : Int) < 105 := by omega
            have he2 : Hid (weeksO X l lim = if oGt (curW T) lim then some k else weeksF (cn l) lim (105 - (k + 1)) (k + 1) (wornC (cnT T) (cn l))) := he.out.trans (weeks_step hlt T)
            have hw := Lib.hid (fun w => specWorn_any T l hs.out w)
            have hsd := Lib.hid (worn_side (l := cn l) (C := cnT T) hs.out)
            clear he
            obtain ⟨t1, ht1⟩ : ∃ t, oGt (curW T) lim = t := ⟨_, rfl⟩
            rw [ht1] at he2
            obtain ⟨h, u, v, s⟩ := T
            dsimp only at hw hsd ht1 hs h0 he2
            obtain ⟨c0, c1, c2, c3⟩ := h0.out.cells
            dsimp only at c0 c1 c2 c3
            rcases hs.out with rfl | rfl
            all_goals
              simp only [curW, if_true, if_false, show ¬ ((1 : Int) = 0) by decide] at ht1
              cases t1
              · have g1 := ((tf_gt ht1).2 rfl).1; have g2 := ((tf_gt ht1).2 rfl).2
                have he3 := Lib.hid he2.out
                simp only [if_false, Bool.false_eq_true] at he3
                clear ht1 he2 hs
                have z0 := Blk.frozen h0.out 0; have z1 := Blk.frozen h0.out 1; have z2 := Blk.frozen h0.out 2; have z3 := Blk.frozen h0.out 3
                go_wp2_with ((go_at_call 61; refine (hw.out _).mono ?_; rintro e w2 ⟨T2, rfl, hT, b2⟩; have k0 := Blk.on h0.out (by rfl) b2; clear c0 c1 c2 c3 z0 z1 z2 z3; have c0 := k0.cell 0; have c1 := k0.cell 1; have c2 := k0.cell 2; have c3 := k0.cell 3; simp at c0 c1 c2 c3; have z0 := k0.frozen 0; have z1 := k0.frozen 1; have z2 := k0.frozen 2; have z3 := k0.frozen 3; have B2 := Lib.hid b2; have N0 := Lib.hid k0; have ns0 := k0.lt; clear k0 b2; have HT := Lib.hid hT; clear hT))
                go_roundw
                case rel => exact ⟨k + 1, T2, by omega, by go_num, is_side HT.out hsd.out, by show _ = _; rw [he3.out, show cnT T2 = wornC (cnT _) (cn l) from HT.out], ((((N0.out.set 0 _).set 1 _).set 2 _).set 3 _), b_set (b_set (b_set (b_set (b_then hb.out B2.out) q0 _ _) q0 _ _) q0 _ _) q0 _ _⟩
                case measure => simp [intOf]; omega
              · have g1 := (tf_gt ht1).1 rfl
                have he3 := Lib.hid he2.out
                simp only [if_true] at he3
                clear ht1 he2 hs
                go_wp2
                go_ret2
                refine ⟨by show Ending.returned _ = _; rw [he3.out]; rfl, ?_⟩
                exact hb.out
          · obtain rfl : k = 105 := by omega
            have he3 : Hid (weeksO X l lim = none) := he.out
            clear he
            go_wp2
            go_ret2
            refine ⟨by show Ending.returned _ = _; rw [he3.out]; rfl, ?_⟩
            exact hb.out
set_option maxHeartbeats 4000000 in
theorem implWeeks_true (X : Th) (l lim : Nat) (hp : psB l = true) (w : World) : Calls Try.prog 27 #[.agg #[.float .f32 X.h, .float .f32 X.u, .float .f32 X.v, .int .i8 X.s], .float .f32 l, .float .f32 lim] w (RV (.tuple #[.int .i64 (valU (codeT (okT X) (psB l && partB lim)) (weeksO X l lim)), .int .i64 (codeU (codeT (okT X) (psB l && partB lim)) (weeksO X l lim))]) w) := by
  have h0 := Lib.hid (AtTh.new w X)
  have q0 : w.heap.size ≤ w.heap.size := Nat.le_refl _
  have hq := fun w => isPlainSize_any l w
  have hl := fun w => isPart_any lim w
  obtain ⟨r, hr⟩ : ∃ r, partB lim = r := ⟨_, rfl⟩
  have hsd := Lib.hid (fun h : okT X = true => okT_side h)
  rw [hp] at hq ⊢
  rw [hr] at hl ⊢
  have hE := fun w => toothError_any X (r) w
  simp only [Bool.true_and, Bool.false_and]
  obtain ⟨K, hK⟩ : ∃ K, codeT (okT X) (r) = K := ⟨_, rfl⟩
  have hk0 := Lib.hid (fun h : K = 0 => show okT X = true from by unfold codeT at hK; cases h1 : okT X <;> simp_all)
  rw [hK] at hE ⊢
  have HQ := Lib.hid hq; have HL := Lib.hid hl; have HE := Lib.hid hE
  have HK := Lib.hid (codeT_cases hK)
  clear hp hr hq hl hE hK
  go_enter Try.func27, Try.ntmps27
  go_upto_region 1 with fail
  have bw : Below w.heap.size w (w.alloc (.cells #[.float .f32 X.h, .float .f32 X.u, .float .f32 X.v, .int .i8 X.s] 28)) := b_alloc (Below.refl _ _) _
  have hsz : w.heap.size < (w.alloc (.cells #[.float .f32 X.h, .float .f32 X.u, .float .f32 X.v, .int .i8 X.s] 28)).heap.size := by simp
  generalize (w.alloc (.cells #[.float .f32 X.h, .float .f32 X.u, .float .f32 X.v, .int .i8 X.s] 28)) = W at *
  have Bw := Lib.hid bw; clear bw
  obtain ⟨c0, c1, c2, c3⟩ := h0.out.cells
  go_cut [8] (fun s8 wx => s8 = .int .i64 K ∧ Below W.heap.size W wx)
  case first =>
    first
      | go_region_law (first | (go_simp; go_at_call 63; refine (HQ.out _).mono ?_; rintro e w1 ⟨rfl, rfl⟩; dsimp only) | (go_simp; go_at_call 56; refine (HL.out _).mono ?_; rintro e w1 ⟨rfl, rfl⟩; dsimp only) | (go_simp; go_at_call 62; refine (HE.out _).mono ?_; rintro e w1 ⟨rfl, b1⟩; dsimp only))
      | fail
    all_goals
      go_wp2_with fail
      go_meet
      refine ⟨rfl, ?_⟩
      repeat (first | exact Below.refl W.heap.size W | refine b_drewN ?_ _ | refine b_drew ?_ | refine b_then ?_ (by assumption))
  case rest =>
    obtain ⟨rfl, hbc⟩ := hcut
    have H1 : Hid (AtTh wc w.heap.size X) := h0.out.on (by rfl) hbc
    have B1 : Hid (Below w.heap.size w wc) := b_then Bw.out hbc
    clear c0 c1 c2 c3 hbc
    rcases HK.out with rfl | rfl | rfl
    · have HS := Lib.hid (hsd.out (hk0.out rfl))
      clear hsd hk0 HQ HL HE HK h0 hsz
      go_wp2
      go_loopw [9, 21] (fun i9 i wr => ∃ (k : Nat) (T : Th), k ≤ 105 ∧ i = .int .i64 k ∧ Hid (T.s = 0 ∨ T.s = 1) ∧ Hid (weeksO X l lim = weeksF (cn l) lim (105 - k) k (cnT T)) ∧ Hid (AtTh wr w.heap.size T) ∧ Hid (Below w.heap.size w wr)) (fun i9 i _ => 105 - (intOf i).toNat)
      case atStart => exact ⟨0, X, by omega, rfl, HS, rfl, H1, B1⟩
      case round =>
        obtain ⟨k, T, hk, rfl, hs, he, h0, hb⟩ := hrel
        have hq : w.heap.size < wr.heap.size := h0.out.lt
        by_cases hlt : k < 105
        · have h9 : (k : Int) ≤ 104 := by omega
          have h8 : (k : Int) < 105 := by omega
          have he2 : Hid (weeksO X l lim = if oGt (curW T) lim then some k else weeksF (cn l) lim (105 - (k + 1)) (k + 1) (wornC (cnT T) (cn l))) := he.out.trans (weeks_step hlt T)
          have hw := Lib.hid (fun w => implWorn_any T l hs.out w)
          have hsd := Lib.hid (worn_side (l := cn l) (C := cnT T) hs.out)
          have hu := Lib.hid (fun w => wear_any T hs.out w)
          clear he
          obtain ⟨t1, ht1⟩ : ∃ t, oGt (curW T) lim = t := ⟨_, rfl⟩
          rw [ht1] at he2
          obtain ⟨h, u, v, s⟩ := T
          dsimp only at hw hsd hu ht1 hs h0 he2
          obtain ⟨c0, c1, c2, c3⟩ := h0.out.cells
          dsimp only at c0 c1 c2 c3
          rcases hs.out with rfl | rfl
          all_goals
            simp only [curW, if_true, if_false, show ¬ ((1 : Int) = 0) by decide] at ht1 hu
            cases t1
            · have g1 := ((tf_gt ht1).2 rfl).1; have g2 := ((tf_gt ht1).2 rfl).2
              have he3 := Lib.hid he2.out
              simp only [if_false, Bool.false_eq_true] at he3
              clear ht1 he2 hs
              have z0 := Blk.frozen h0.out 0; have z1 := Blk.frozen h0.out 1; have z2 := Blk.frozen h0.out 2; have z3 := Blk.frozen h0.out 3
              go_wp2_with (first | (go_at_call 59; refine (hu.out _).mono ?_; rintro e w3 ⟨rfl, b3⟩; have j0 := Blk.on h0.out (by rfl) b3; clear c0 c1 c2 c3 z0 z1 z2 z3; have c0 := j0.cell 0; have c1 := j0.cell 1; have c2 := j0.cell 2; have c3 := j0.cell 3; simp at c0 c1 c2 c3; have z0 := j0.frozen 0; have z1 := j0.frozen 1; have z2 := j0.frozen 2; have z3 := j0.frozen 3; have B3 := Lib.hid b3; have J0 := Lib.hid j0; have js0 := j0.lt; clear j0 b3) | (go_at_call 64; refine (hw.out _).mono ?_; rintro e w2 ⟨T2, rfl, hT, b2⟩; have k0 := Blk.on J0.out (by rfl) b2; clear c0 c1 c2 c3 z0 z1 z2 z3; have c0 := k0.cell 0; have c1 := k0.cell 1; have c2 := k0.cell 2; have c3 := k0.cell 3; simp at c0 c1 c2 c3; have z0 := k0.frozen 0; have z1 := k0.frozen 1; have z2 := k0.frozen 2; have z3 := k0.frozen 3; have B2 := Lib.hid b2; have N0 := Lib.hid k0; have ns0 := k0.lt; clear k0 b2; have HT := Lib.hid hT; clear hT))
              go_roundw
              case rel => exact ⟨k + 1, T2, by omega, by go_num, is_side HT.out hsd.out, by show _ = _; rw [he3.out, show cnT T2 = wornC (cnT _) (cn l) from HT.out], ((((N0.out.set 0 _).set 1 _).set 2 _).set 3 _), b_set (b_set (b_set (b_set (b_then (b_then hb.out B3.out) B2.out) q0 _ _) q0 _ _) q0 _ _) q0 _ _⟩
              case measure => simp [intOf]; omega
            · have g1 := (tf_gt ht1).1 rfl
              have he3 := Lib.hid he2.out
              simp only [if_true] at he3
              clear ht1 he2 hs
              go_wp2_with (go_at_call 59; refine (hu.out _).mono ?_; rintro e w3 ⟨rfl, b3⟩)
              go_ret2
              refine ⟨by show Ending.returned _ = _; rw [he3.out]; rfl, ?_⟩
              exact b_then hb.out (by assumption)
        · obtain rfl : k = 105 := by omega
          have he3 : Hid (weeksO X l lim = none) := he.out
          clear he
          go_wp2
          go_ret2
          refine ⟨by show Ending.returned _ = _; rw [he3.out]; rfl, ?_⟩
          exact hb.out
    all_goals
      go_wp2
      go_ret2
      refine ⟨rfl, ?_⟩
      exact B1.out
set_option maxHeartbeats 4000000 in
theorem implWeeks_false (X : Th) (l lim : Nat) (hp : psB l = false) (w : World) : Calls Try.prog 27 #[.agg #[.float .f32 X.h, .float .f32 X.u, .float .f32 X.v, .int .i8 X.s], .float .f32 l, .float .f32 lim] w (RV (.tuple #[.int .i64 (valU (codeT (okT X) (psB l && partB lim)) (weeksO X l lim)), .int .i64 (codeU (codeT (okT X) (psB l && partB lim)) (weeksO X l lim))]) w) := by
  have h0 := Lib.hid (AtTh.new w X)
  have q0 : w.heap.size ≤ w.heap.size := Nat.le_refl _
  have hq := fun w => isPlainSize_any l w
  have hl := fun w => isPart_any lim w
  obtain ⟨r, hr⟩ : ∃ r, partB lim = r := ⟨_, rfl⟩
  have hsd := Lib.hid (fun h : okT X = true => okT_side h)
  rw [hp] at hq ⊢
  rw [hr] at hl ⊢
  have hE := fun w => toothError_any X (false) w
  simp only [Bool.true_and, Bool.false_and]
  obtain ⟨K, hK⟩ : ∃ K, codeT (okT X) (false) = K := ⟨_, rfl⟩
  have hk0 := Lib.hid (fun h : K = 0 => show okT X = true from by unfold codeT at hK; cases h1 : okT X <;> simp_all)
  rw [hK] at hE ⊢
  have HQ := Lib.hid hq; have HL := Lib.hid hl; have HE := Lib.hid hE
  have HK := Lib.hid (codeT_cases hK)
  clear hp hr hq hl hE hK
  go_enter Try.func27, Try.ntmps27
  go_upto_region 1 with fail
  have bw : Below w.heap.size w (w.alloc (.cells #[.float .f32 X.h, .float .f32 X.u, .float .f32 X.v, .int .i8 X.s] 28)) := b_alloc (Below.refl _ _) _
  have hsz : w.heap.size < (w.alloc (.cells #[.float .f32 X.h, .float .f32 X.u, .float .f32 X.v, .int .i8 X.s] 28)).heap.size := by simp
  generalize (w.alloc (.cells #[.float .f32 X.h, .float .f32 X.u, .float .f32 X.v, .int .i8 X.s] 28)) = W at *
  have Bw := Lib.hid bw; clear bw
  obtain ⟨c0, c1, c2, c3⟩ := h0.out.cells
  go_cut [8] (fun s8 wx => s8 = .int .i64 K ∧ Below W.heap.size W wx)
  case first =>
    first
      | go_region_law (first | (go_simp; go_at_call 63; refine (HQ.out _).mono ?_; rintro e w1 ⟨rfl, rfl⟩; dsimp only) | (go_simp; go_at_call 56; refine (HL.out _).mono ?_; rintro e w1 ⟨rfl, rfl⟩; dsimp only) | (go_simp; go_at_call 62; refine (HE.out _).mono ?_; rintro e w1 ⟨rfl, b1⟩; dsimp only))
      | fail
    all_goals
      go_wp2_with fail
      go_meet
      refine ⟨rfl, ?_⟩
      repeat (first | exact Below.refl W.heap.size W | refine b_drewN ?_ _ | refine b_drew ?_ | refine b_then ?_ (by assumption))
  case rest =>
    obtain ⟨rfl, hbc⟩ := hcut
    have H1 : Hid (AtTh wc w.heap.size X) := h0.out.on (by rfl) hbc
    have B1 : Hid (Below w.heap.size w wc) := b_then Bw.out hbc
    clear c0 c1 c2 c3 hbc
    rcases HK.out with rfl | rfl | rfl
    · have HS := Lib.hid (hsd.out (hk0.out rfl))
      clear hsd hk0 HQ HL HE HK h0 hsz
      go_wp2
      go_loopw [9, 21] (fun i9 i wr => ∃ (k : Nat) (T : Th), k ≤ 105 ∧ i = .int .i64 k ∧ Hid (T.s = 0 ∨ T.s = 1) ∧ Hid (weeksO X l lim = weeksF (cn l) lim (105 - k) k (cnT T)) ∧ Hid (AtTh wr w.heap.size T) ∧ Hid (Below w.heap.size w wr)) (fun i9 i _ => 105 - (intOf i).toNat)
      case atStart => exact ⟨0, X, by omega, rfl, HS, rfl, H1, B1⟩
      case round =>
        obtain ⟨k, T, hk, rfl, hs, he, h0, hb⟩ := hrel
        have hq : w.heap.size < wr.heap.size := h0.out.lt
        by_cases hlt : k < 105
        · have h9 : (k : Int) ≤ 104 := by omega
          have h8 : (k : Int) < 105 := by omega
          have he2 : Hid (weeksO X l lim = if oGt (curW T) lim then some k else weeksF (cn l) lim (105 - (k + 1)) (k + 1) (wornC (cnT T) (cn l))) := he.out.trans (weeks_step hlt T)
          have hw := Lib.hid (fun w => implWorn_any T l hs.out w)
          have hsd := Lib.hid (worn_side (l := cn l) (C := cnT T) hs.out)
          have hu := Lib.hid (fun w => wear_any T hs.out w)
          clear he
          obtain ⟨t1, ht1⟩ : ∃ t, oGt (curW T) lim = t := ⟨_, rfl⟩
          rw [ht1] at he2
          obtain ⟨h, u, v, s⟩ := T
          dsimp only at hw hsd hu ht1 hs h0 he2
          obtain ⟨c0, c1, c2, c3⟩ := h0.out.cells
          dsimp only at c0 c1 c2 c3
          rcases hs.out with rfl | rfl
          all_goals
            simp only [curW, if_true, if_false, show ¬ ((1 : Int) = 0) by decide] at ht1 hu
            cases t1
            · have g1 := ((tf_gt ht1).2 rfl).1; have g2 := ((tf_gt ht1).2 rfl).2
              have he3 := Lib.hid he2.out
              simp only [if_false, Bool.false_eq_true] at he3
              clear ht1 he2 hs
              have z0 := Blk.frozen h0.out 0; have z1 := Blk.frozen h0.out 1; have z2 := Blk.frozen h0.out 2; have z3 := Blk.frozen h0.out 3
              go_wp2_with (first | (go_at_call 59; refine (hu.out _).mono ?_; rintro e w3 ⟨rfl, b3⟩; have j0 := Blk.on h0.out (by rfl) b3; clear c0 c1 c2 c3 z0 z1 z2 z3; have c0 := j0.cell 0; have c1 := j0.cell 1; have c2 := j0.cell 2; have c3 := j0.cell 3; simp at c0 c1 c2 c3; have z0 := j0.frozen 0; have z1 := j0.frozen 1; have z2 := j0.frozen 2; have z3 := j0.frozen 3; have B3 := Lib.hid b3; have J0 := Lib.hid j0; have js0 := j0.lt; clear j0 b3) | (go_at_call 64; refine (hw.out _).mono ?_; rintro e w2 ⟨T2, rfl, hT, b2⟩; have k0 := Blk.on J0.out (by rfl) b2; clear c0 c1 c2 c3 z0 z1 z2 z3; have c0 := k0.cell 0; have c1 := k0.cell 1; have c2 := k0.cell 2; have c3 := k0.cell 3; simp at c0 c1 c2 c3; have z0 := k0.frozen 0; have z1 := k0.frozen 1; have z2 := k0.frozen 2; have z3 := k0.frozen 3; have B2 := Lib.hid b2; have N0 := Lib.hid k0; have ns0 := k0.lt; clear k0 b2; have HT := Lib.hid hT; clear hT))
              go_roundw
              case rel => exact ⟨k + 1, T2, by omega, by go_num, is_side HT.out hsd.out, by show _ = _; rw [he3.out, show cnT T2 = wornC (cnT _) (cn l) from HT.out], ((((N0.out.set 0 _).set 1 _).set 2 _).set 3 _), b_set (b_set (b_set (b_set (b_then (b_then hb.out B3.out) B2.out) q0 _ _) q0 _ _) q0 _ _) q0 _ _⟩
              case measure => simp [intOf]; omega
            · have g1 := (tf_gt ht1).1 rfl
              have he3 := Lib.hid he2.out
              simp only [if_true] at he3
              clear ht1 he2 hs
              go_wp2_with (go_at_call 59; refine (hu.out _).mono ?_; rintro e w3 ⟨rfl, b3⟩)
              go_ret2
              refine ⟨by show Ending.returned _ = _; rw [he3.out]; rfl, ?_⟩
              exact b_then hb.out (by assumption)
        · obtain rfl : k = 105 := by omega
          have he3 : Hid (weeksO X l lim = none) := he.out
          clear he
          go_wp2
          go_ret2
          refine ⟨by show Ending.returned _ = _; rw [he3.out]; rfl, ?_⟩
          exact hb.out
    all_goals
      go_wp2
      go_ret2
      refine ⟨rfl, ?_⟩
      exact B1.out
theorem implWeeks_any (X : Th) (l lim : Nat) (w : World) : Calls Try.prog 27 #[.agg #[.float .f32 X.h, .float .f32 X.u, .float .f32 X.v, .int .i8 X.s], .float .f32 l, .float .f32 lim] w (RV (.tuple #[.int .i64 (valU (codeT (okT X) (psB l && partB lim)) (weeksO X l lim)), .int .i64 (codeU (codeT (okT X) (psB l && partB lim)) (weeksO X l lim))]) w) := by
  rcases Bool.eq_false_or_eq_true (psB l) with hp | hp
  · exact implWeeks_true X l lim hp w
  · exact implWeeks_false X l lim hp w
set_option maxRecDepth 100000 in
set_option maxHeartbeats 4000000 in
theorem walk_FnExactWeeksUntil (X : Th) (wX : (Lit.float .f32 X.h).wf = true ∧ (Lit.float .f32 X.u).wf = true ∧ (Lit.float .f32 X.v).wf = true ∧ (Lit.int .i8 X.s).wf = true) (l : Nat) (wl : (Lit.float .f32 l).wf = true) (lim : Nat) (wlim : (Lit.float .f32 lim).wf = true) (w : World) :
    Calls Try.prog 7 #[.agg #[.float .f32 X.h, .float .f32 X.u, .float .f32 X.v, .int .i8 X.s], .float .f32 l, .float .f32 lim] w fun e w' => e = .returned (.bool true) ∧ Below w.heap.size w w' := by
  skip
  go_enter Try.func7, Try.ntmps7
  go_wp2_with fail
  refine (toTh_any X _).mono ?_
  rintro e w0 ⟨rfl, b0⟩
  have B0 : Hid (Below w.heap.size w w0) := b_then ((b_alloc (Below.refl _ _) _)) b0
  have l0 := AtLTh.on (AtLTh.new w X) (by rfl) b0
  clear b0
  go_wp2_with fail
  refine (specWeeks_any X l lim wX.2.2.2 _).mono ?_
  rintro e w1 ⟨rfl, b1⟩
  have B1 : Hid (Below w.heap.size w w1) := b_then (B0.out) b1
  have l1 := AtLTh.on l0 (by rfl) b1
  clear b1 l0
  obtain ⟨c0, c1, c2, c3⟩ := l1.cells
  clear l1
  go_wp2_with fail
  refine (toTh_any X _).mono ?_
  rintro e w2 ⟨rfl, b2⟩
  have B2 : Hid (Below w.heap.size w w2) := b_then (B1.out) b2
  clear b2
  go_wp2_with fail
  refine (implWeeks_any X l lim _).mono ?_
  rintro e w3 ⟨rfl, b3⟩
  have B3 : Hid (Below w.heap.size w w3) := b_then (B2.out) b3
  clear b3
  go_wp2
  go_ret
  exact ⟨rfl, B3.out⟩
end Go.Proofs.Ytndmkfmfphgckaa
