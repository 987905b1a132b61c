/-
  The factors of two wheels and of four: both sides and the laws.
-/
import Derived.Test.YteelgnadooodeaaWh
namespace Go.Proofs.Yteelgnadooodeaa
open Go.RowKit Go.ChangeShapes Go.WideShapes Go.Deep
attribute [local go_sem ↓] Go.wp_at_zero Go.wp_at_succ
set_option linter.unusedVariables false
set_option linter.unusedSimpArgs false
set_option maxRecDepth 100000
def wB (n : Nat) (x : Int) : Bool := decide (0 ≤ x) && decide (x < (n : Int))
theorem inB_two (n : Nat) (a b : Int) : inB n [a, b] = (wB n a && wB n b) := by simp [inB, wB]
theorem inB_four (n : Nat) (a b c d : Int) : inB n [a, b, c, d] = (wB n a && (wB n b && (wB n c && wB n d))) := by simp [inB, wB]
theorem dupB_two (a b : Int) : dupB [a, b] = (a == b) := by
  simp only [dupB, List.length_cons, List.length_nil, List.range_succ, List.range_zero, List.any_append, List.any_cons, List.any_nil]
  by_cases h : a = b
  · subst h; simp
  · have h2 : ¬ b = a := fun e => h e.symm
    simp [h, h2]
theorem dupB_four (a b c d : Int) : dupB [a, b, c, d] = (a == b || (a == c || (a == d || (b == c || (b == d || c == d))))) := by
  have e1 : (b == a) = (a == b) := Bool.beq_comm
  have e2 : (c == a) = (a == c) := Bool.beq_comm
  have e3 : (d == a) = (a == d) := Bool.beq_comm
  have e4 : (c == b) = (b == c) := Bool.beq_comm
  have e5 : (d == b) = (b == d) := Bool.beq_comm
  have e6 : (d == c) = (c == d) := Bool.beq_comm
  simp only [dupB, List.length_cons, List.length_nil, List.range_succ, List.range_zero, List.any_append, List.any_cons, List.any_nil, List.take_succ_cons, List.take_zero, List.getD_cons_zero, List.getD_cons_succ, List.contains_cons, List.contains_nil, Bool.or_false, Bool.false_or, Nat.zero_add, Nat.reduceAdd]
  rw [e1, e2, e3, e4, e5, e6]
  generalize (a == b) = p1, (a == c) = p2, (a == d) = p3, (b == c) = p4, (b == d) = p5, (c == d) = p6
  revert p1 p2 p3 p4 p5 p6
  decide
def pairC (zs : List Int) (a b : Int) : Nat := cn (quoT (zs.getD a.toNat 0) (zs.getD b.toNat 0))
theorem pairC_of {zs : List Int} {i j : Nat} {x y : Int} (hx : zs[i]? = some x) (hy : zs[j]? = some y) : pairC zs (i : Int) (j : Int) = cn (quoT x y) := by
  unfold pairC
  rw [Int.toNat_natCast, Int.toNat_natCast, getD_of hx, getD_of hy]
def choiceC (zs : List Int) (C : Ch) : Nat := f2 .mul (pairC zs C.a C.b) (pairC zs C.c C.d)
def chL (C : Ch) : List Int := [C.a, C.b, C.c, C.d]
theorem wheelsError_is {A : Option Addr} {n c : Nat} {zs : List Int} {A' : Option Addr} {m c' : Nat} {xs : List Int} {w : World} {K : Int} (hK : codeW zs xs = K) (hl : zs.length = n) (hn : n ≤ 1048576) (hw : ∀ z ∈ zs, I16 z) (hT : Ii w w.heap.size A zs)
    (hl' : xs.length = m) (hm : m ≤ 1000) (hmc : m ≤ c') (hc' : c' ≤ 1000) (hT' : Lo w w.heap.size A' xs) :
    Calls Try.prog 65 #[.slice A n c, .slice A' m c'] w (RV (.int .i64 K) w) := by
  subst hK
  exact wheelsError_any A n c zs A' m c' xs w hl hn hw hT hl' hm hmc hc' hT'
/-- A wheel that is there. -/
theorem wheel_of {zs : List Int} (hz : okZ zs = true) {x : Int} (hx : 0 ≤ x ∧ x < (zs.length : Int)) : ∃ (i : Nat) (z : Int), x = (i : Int) ∧ zs[i]? = some z ∧ i < zs.length ∧ 6 ≤ z ∧ z ≤ 200 ∧ IntKind.i16.wrap (i : Int) = (i : Int) := by
  obtain ⟨i, rfl⟩ := Int.eq_ofNat_of_zero_le hx.1
  have hi : i < zs.length := by omega
  have h24 := (okZ_at hz).1.2
  obtain ⟨h1, h2⟩ := okZ_teeth hz (List.getElem?_eq_getElem hi)
  exact ⟨i, _, rfl, List.getElem?_eq_getElem hi, hi, h1, h2, i16_small _ (by omega) (by omega)⟩
set_option maxHeartbeats 2000000 in
theorem implPair_any (A : Option Addr) (n c : Nat) (zs : List Int) (a b : Int) (w : World) (hl : zs.length = n) (hn : n ≤ 1048576) (hw : ∀ z ∈ zs, I16 z) (hT : Ii w w.heap.size A zs) :
    Calls Try.prog 23 #[.slice A n c, .int .i64 a, .int .i64 b] w (RFC (zeroIf (codeW zs [a, b]) (pairC zs a b)) (codeW zs [a, b]) w) := by
  have HT := Lib.hid hT; clear hT
  have Hl := Lib.hid hl; clear hl
  have Hw := Lib.hid hw; clear hw
  obtain ⟨K, hK0⟩ : ∃ K, codeW zs [a, b] = K := ⟨_, rfl⟩
  have hK := Lib.hid hK0
  rw [hK0]
  rcases codeW_cases hK0 with rfl | rfl | rfl | rfl
  · obtain ⟨hz, hin⟩ := codeW_zero hK0
    clear hK0
    obtain ⟨i, x, rfl, hx, hi, x1, x2, wi⟩ := wheel_of hz (inB_at hin (x := a) (by simp))
    obtain ⟨j, y, rfl, hy, hj, y1, y2, wj⟩ := wheel_of hz (inB_at hin (x := b) (by simp))
    have Hx := Lib.hid hx; have Hy := Lib.hid hy; have hr := Lib.hid (pairC_of hx hy)
    have hf := fun w => forward_any x1 x2 y1 y2 0 w
    have Hf := Lib.hid hf
    clear hx hy hz hin hf x1 x2 y1 y2 hi hj
    go_enter Try.func23, Try.ntmps23
    go_wp2_with (first | (go_at_call 65; refine (wheelsError_is (m := 2) (c' := 2) hK.out Hl.out hn Hw.out (HT.out.keep (by (repeat (first | exact Below.refl _ _ | refine b_drewN ?_ _ | refine b_drew ?_ | refine b_alloc ?_ _ | refine b_then ?_ (by assumption))))) rfl (by decide) (by decide) (by decide) (lo_two (by go_simp) (by go_simp) (by simp))).mono ?_; rintro e w1 ⟨rfl, b1⟩) | (go_at_call 66; refine (pairIn_any A n c i j zs x y _ Hl.out Hx.out Hy.out hn (HT.out.keep (by (repeat (first | exact Below.refl _ _ | refine b_drewN ?_ _ | refine b_drew ?_ | refine b_alloc ?_ _ | refine b_then ?_ (by assumption)))))).mono ?_; rintro e w2 ⟨rfl, b2⟩) | (go_at_call 67; refine (Hf.out _).mono ?_; rintro e w3 ⟨rfl, b3⟩))
    go_ret2
    refine ⟨_, rfl, ?_, ?_⟩
    · unfold CN zeroIf
      rw [if_pos rfl, hr.out]
    · (repeat (first | exact Below.refl _ _ | refine b_drewN ?_ _ | refine b_drew ?_ | refine b_alloc ?_ _ | refine b_then ?_ (by assumption)))
  all_goals
    clear hK0
    go_enter Try.func23, Try.ntmps23
    go_wp2_with (first | (go_at_call 65; refine (wheelsError_is (m := 2) (c' := 2) hK.out Hl.out hn Hw.out (HT.out.keep (by (repeat (first | exact Below.refl _ _ | refine b_drewN ?_ _ | refine b_drew ?_ | refine b_alloc ?_ _ | refine b_then ?_ (by assumption))))) rfl (by decide) (by decide) (by decide) (lo_two (by go_simp) (by go_simp) (by simp))).mono ?_; rintro e w1 ⟨rfl, b1⟩))
    go_ret2
    refine ⟨_, rfl, by rfl, ?_⟩
    (repeat (first | exact Below.refl _ _ | refine b_drewN ?_ _ | refine b_drew ?_ | refine b_alloc ?_ _ | refine b_then ?_ (by assumption)))
set_option maxHeartbeats 2000000 in
theorem specPair_any (A : Option Addr) (n c : Nat) (zs : List Int) (a b : Int) (w : World) (hl : zs.length = n) (hn : n ≤ 1048576) (hw : ∀ z ∈ zs, I16 z) (hT : Ii w w.heap.size A zs) :
    Calls Try.prog 22 #[.slice A n c, .int .i64 a, .int .i64 b] w (RFC (zeroIf (codeW zs [a, b]) (pairC zs a b)) (codeW zs [a, b]) w) := by
  have HT := Lib.hid hT; clear hT
  have Hl := Lib.hid hl; clear hl
  have Hw := Lib.hid hw; clear hw
  rcases Bool.eq_false_or_eq_true (okZ zs) with hz | hz
  rotate_left
  · have Ho := Lib.hid (specOk_is (w := w) (c := c) hz Hl.out hn Hw.out HT.out)
    have hk : codeW zs [a, b] = 1 := by unfold codeW; rw [hz]; rfl
    rw [hk]
    clear hz hk
    go_enter Try.func22, Try.ntmps22
    go_wp2_with (go_at_call 55; refine Ho.out.mono ?_; rintro e w1 ⟨rfl, b1⟩)
    go_ret2
    refine ⟨_, rfl, by rfl, ?_⟩
    (repeat (first | exact Below.refl _ _ | refine b_drewN ?_ _ | refine b_drew ?_ | refine b_alloc ?_ _ | refine b_then ?_ (by assumption)))
  have Ho := Lib.hid (specOk_is (w := w) (c := c) hz Hl.out hn Hw.out HT.out)
  have hk : codeW zs [a, b] = if (wB n a && wB n b) then (if (a == b) then 4 else 0) else 2 := by unfold codeW; rw [hz, inB_two, dupB_two, Hl.out]; rfl
  rw [hk]
  clear hk
  rcases Bool.eq_false_or_eq_true (wB n a) with ha | ha <;> rcases Bool.eq_false_or_eq_true (wB n b) with hb | hb
  · obtain ⟨i, x, rfl, hx, hi, x1, x2, wi⟩ := wheel_of hz (x := a) (by rw [Hl.out]; simpa [wB] using ha)
    obtain ⟨j, y, rfl, hy, hj, y1, y2, wj⟩ := wheel_of hz (x := b) (by rw [Hl.out]; simpa [wB] using hb)
    have wa := Lib.hid (fun w => l05Wheel_is A c ha hn w)
    have wb := Lib.hid (fun w => l05Wheel_is A c hb hn w)
    obtain ⟨bl, off, rfl, hbs, hc⟩ := HT.out (by omega)
    have c0 : ∀ W, Below w.heap.size w W → W.cell? ⟨bl, off + i, none⟩ = some (.int .i16 x) := fun W hb => (World.cell?_of_block (a := ⟨bl, off + i, none⟩) (hb.block bl hbs)).trans (hc i x hx)
    have c1 : ∀ W, Below w.heap.size w W → W.cell? ⟨bl, off + j, none⟩ = some (.int .i16 y) := fun W hb => (World.cell?_of_block (a := ⟨bl, off + j, none⟩) (hb.block bl hbs)).trans (hc j y hy)
    have C0 := Lib.hid c0; have C1 := Lib.hid c1
    have hr := Lib.hid (pairC_of hx hy)
    have z0 : (0 : Int) ≤ (i : Int) := by omega
    have z1 : (i : Int) < (n : Int) := by have := Hl.out; omega
    have z2 : (0 : Int) ≤ (j : Int) := by omega
    have z3 : (j : Int) < (n : Int) := by have := Hl.out; omega
    rw [ha, hb]
    simp only [Bool.and_self, if_true]
    clear hc hx hy c0 c1 hz ha hb hi hj
    cases hab : ((i : Int) == (j : Int))
    · simp only [if_false, Bool.false_eq_true]
      have hq0 := fun w => l01Quotient_any x1 x2 y1 y2 w
      obtain ⟨q, hq⟩ : ∃ q, quoT x y = q := ⟨_, rfl⟩
      rw [hq] at hq0 hr
      have Hq := Lib.hid hq0
      clear x1 x2 y1 y2 hq0 hq
      go_enter Try.func22, Try.ntmps22
      go_wp2_with (first | (go_at_call 55; refine Ho.out.mono ?_; rintro e w1 ⟨rfl, b1⟩; have d0 := C0.out _ b1; have d1 := C1.out _ b1) | (go_at_call 63; first | ((with_reducible refine (wa.out _).mono ?_); rintro e w2 ⟨rfl, rfl⟩) | (refine (wb.out _).mono ?_; rintro e w2 ⟨rfl, rfl⟩)))
      go_quiet ((go_at_call 64; exact Calls.quiet_of_same ((Hq.out _).mono fun _ _ h => ⟨h.1, h.2.symm⟩)))
      go_wp2
      go_ret2
      refine ⟨_, rfl, ?_, ?_⟩
      · unfold CN zeroIf
        rw [if_pos rfl, hr.out]
      · (repeat (first | exact Below.refl _ _ | refine b_drewN ?_ _ | refine b_drew ?_ | refine b_alloc ?_ _ | refine b_then ?_ (by assumption)))
    · simp only [if_true]
      clear x1 x2 y1 y2
      go_enter Try.func22, Try.ntmps22
      go_wp2_with (first | (go_at_call 55; refine Ho.out.mono ?_; rintro e w1 ⟨rfl, b1⟩) | (go_at_call 63; first | ((with_reducible refine (wa.out _).mono ?_); rintro e w2 ⟨rfl, rfl⟩) | (refine (wb.out _).mono ?_; rintro e w2 ⟨rfl, rfl⟩)))
      go_ret2
      refine ⟨_, rfl, by rfl, ?_⟩
      (repeat (first | exact Below.refl _ _ | refine b_drewN ?_ _ | refine b_drew ?_ | refine b_alloc ?_ _ | refine b_then ?_ (by assumption)))
  all_goals
    have wa := Lib.hid (fun w => l05Wheel_is A c ha hn w)
    have wb := Lib.hid (fun w => l05Wheel_is A c hb hn w)
    rw [ha, hb]
    simp only [Bool.and_false, Bool.false_and, Bool.and_self, if_false, Bool.false_eq_true]
    clear ha hb hz
    go_enter Try.func22, Try.ntmps22
    go_wp2_with (first | (go_at_call 55; refine Ho.out.mono ?_; rintro e w1 ⟨rfl, b1⟩) | (go_at_call 63; first | ((with_reducible refine (wa.out _).mono ?_); rintro e w2 ⟨rfl, rfl⟩) | (refine (wb.out _).mono ?_; rintro e w2 ⟨rfl, rfl⟩)))
    go_ret2
    refine ⟨_, rfl, by rfl, ?_⟩
    (repeat (first | exact Below.refl _ _ | refine b_drewN ?_ _ | refine b_drew ?_ | refine b_alloc ?_ _ | refine b_then ?_ (by assumption)))
set_option maxRecDepth 100000 in
set_option maxHeartbeats 4000000 in
theorem walk_FnExactFactorOfPair (A : Option Addr) (n c : Nat) (zs : List Int) (a : Int) (wa : (Lit.int .i64 a).wf = true) (b : Int) (wb : (Lit.int .i64 b).wf = true) (w : World) (h : IiIn w A n c zs) :
    Calls Try.prog 5 #[.slice A n c, .int .i64 a, .int .i64 b] w fun e w' => e = .returned (.bool true) ∧ Below w.heap.size w w' := by
  obtain ⟨hl, hnc, hc, hT, hw⟩ := h
  have Hl := Lib.hid hl; clear hl
  have HT := Lib.hid hT; clear hT
  have Hw := Lib.hid hw; clear hw
  have hnm : n ≤ maxLen := Nat.le_trans hnc hc
  unfold maxLen at hnm
  clear hnc hc
  by_cases z0 : 1048576 < (n : Int)
  · go_enter Try.func5, Try.ntmps5
    go_wp2
    go_ret
    refine ⟨rfl, ?_⟩
    repeat (first | exact Below.refl _ _ | refine b_alloc ?_ _)
  have kb : n ≤ 1048576 := by omega
  go_enter Try.func5, Try.ntmps5
  go_wp2_with fail
  refine (toInts_any A n c zs _ Hl.out kb (HT.out.keep (Below.refl _ _))).mono ?_
  rintro e w1 ⟨rfl, m1⟩
  have M1 := Lib.hid m1; clear m1
  have B1 : Hid (Below w.heap.size w w1) := b_then (Below.refl _ _) M1.out.2.2.2
  go_wp2_with fail
  refine (specPair_any _ n _ zs a b _ Hl.out kb Hw.out M1.out.ii).mono ?_
  rintro e w2 ⟨r2_0, rfl, h2_0, b2⟩
  have H2_0 := Lib.hid h2_0; clear h2_0
  have Bl2 := Lib.hid b2
  have B2 : Hid (Below w.heap.size w w2) := b_then B1.out b2
  go_wp2_with fail
  refine (toInts_any A n c zs _ Hl.out kb (HT.out.keep B2.out)).mono ?_
  rintro e w3 ⟨rfl, m3⟩
  have M3 := Lib.hid m3; clear m3
  have B3 : Hid (Below w.heap.size w w3) := b_then B2.out M3.out.2.2.2
  go_wp2_with fail
  refine (implPair_any _ n _ zs a b _ Hl.out kb Hw.out M3.out.ii).mono ?_
  rintro e w4 ⟨r4_0, rfl, h4_0, b4⟩
  have H4_0 := Lib.hid h4_0; clear h4_0
  have Bl4 := Lib.hid b4
  have B4 : Hid (Below w.heap.size w w4) := b_then B3.out b4
  obtain ⟨x0, y0, m0, n0, p0, q0, t0⟩ := conv2 (H4_0.out.trans H2_0.out.symm)
  have T0 := Lib.hid t0; clear t0
  go_wp2_with fail
  refine (T0.out _ _ _).mono ?_
  rintro e z0 ⟨rfl, rfl⟩
  have tok : Hid (∀ W : World, Below w4.heap.size w4 W → Calls Try.prog 16 #[.slice A n c] W fun e w' => e = .returned (.slice (some ⟨W.heap.size, 0, none⟩) n n) ∧ MadeI W w' n zs) := fun W hW => toInts_any A n c zs _ Hl.out kb ((HT.out.keep B4.out).keep hW)
  go_wp2_with fail
  refine (tok.out _ (by first | exact Below.refl _ _ | exact b_drewN (Below.refl _ _) _ | exact b_drewN (b_drewN (Below.refl _ _) _) _ | exact b_drewN (b_drewN (b_drewN (Below.refl _ _) _) _) _ | exact b_drewN (b_drewN (b_drewN (b_drewN (Below.refl _ _) _) _) _) _)).mono ?_
  rintro e w5 ⟨rfl, m5⟩
  have M5 := Lib.hid m5; clear m5
  have D5 : Hid (Below w4.heap.size w4 w5) := b_then (by first | exact Below.refl _ _ | exact b_drewN (Below.refl _ _) _ | exact b_drewN (b_drewN (Below.refl _ _) _) _ | exact b_drewN (b_drewN (b_drewN (Below.refl _ _) _) _) _ | exact b_drewN (b_drewN (b_drewN (b_drewN (Below.refl _ _) _) _) _) _) M5.out.2.2.2
  go_wp2_with fail
  refine (eqInts_same _ _ _ _ _ zs _ Hl.out kb ((M3.out.ii.keep Bl4.out).keep D5.out) M5.out.ii).mono ?_
  rintro e wz ⟨rfl, bz⟩
  have BZ := Lib.hid (b_then (b_then B4.out D5.out) bz)
  go_wp2
  go_ret
  exact ⟨rfl, BZ.out⟩
end Go.Proofs.Yteelgnadooodeaa
