/-
  The factor of four wheels: both sides and the law.
-/
import Derived.Test.YteelgnadooodeaaCf
import Derived.Test.YteelgnadooodeaaQt
namespace Go.Proofs.Yteelgnadooodeaa
open Go.RowKit Go.ChangeShapes Go.WideShapes Go.Deep
attribute [local go_sem ↓] Go.wp_at_zero Go.wp_at_succ
set_option linter.unusedVariables false
set_option linter.unusedSimpArgs false
set_option maxRecDepth 100000
set_option maxHeartbeats 2000000 in
theorem choiceError_is {K : Int} (A : Option Addr) (n k : Nat) (zs : List Int) (a b c d : Int) (w : World) (hK0 : codeW zs [a, b, c, d] = K) (hl : zs.length = n) (hn : n ≤ 1048576) (hw : ∀ z ∈ zs, I16 z) (hT : Ii w w.heap.size A zs) (ha : I16 a) (hb : I16 b) (hc : I16 c) (hd : I16 d) :
    Calls Try.prog 70 #[.slice A n k, .agg #[.int .i16 a, .int .i16 b, .int .i16 c, .int .i16 d]] w (RV (.int .i64 K) w) := by
  have HT := Lib.hid hT; clear hT
  have Hl := Lib.hid hl; clear hl
  have Hw := Lib.hid hw; clear hw
  have hK := Lib.hid hK0; clear hK0
  obtain ⟨c0, c1, c2, c3⟩ := (AtCh.new w ⟨a, b, c, d⟩).cells
  dsimp only at c0 c1 c2 c3
  obtain ⟨ha1, ha2⟩ := ha
  obtain ⟨hb1, hb2⟩ := hb
  obtain ⟨hc1, hc2⟩ := hc
  obtain ⟨hd1, hd2⟩ := hd
  go_enter Try.func70, Try.ntmps70
  go_wp2_with (first | (go_at_call 65; refine (wheelsError_is (m := 4) (c' := 4) hK.out Hl.out hn Hw.out (HT.out.keep (by (repeat (first | exact Below.refl _ _ | refine b_drewN ?_ _ | refine b_drew ?_ | refine b_alloc ?_ _ | refine b_then ?_ (by assumption))))) rfl (by decide) (by decide) (by decide) (lo_four (by go_simp) (by go_simp) (by go_simp) (by go_simp) (by simp))).mono ?_; rintro e w1 ⟨rfl, b1⟩))
  go_ret
  refine ⟨rfl, ?_⟩
  (repeat (first | exact Below.refl _ _ | refine b_drewN ?_ _ | refine b_drew ?_ | refine b_alloc ?_ _ | refine b_then ?_ (by assumption)))
set_option maxHeartbeats 4000000 in
theorem implFactor_any (A : Option Addr) (n k : Nat) (zs : List Int) (a b c d : Nat) (x y u v : Int) (w : World) (hl : zs.length = n) (hn : n ≤ 1048576) (hT : Ii w w.heap.size A zs)
    (hx : zs[a]? = some x) (hy : zs[b]? = some y) (hu : zs[c]? = some u) (hv : zs[d]? = some v) (hf1 : ∀ l w, Calls Try.prog 67 #[.agg #[.int .i16 x, .int .i16 y, .float .f32 l]] w (RV (.float .f32 (quoT x y)) w)) (hf2 : ∀ l w, Calls Try.prog 67 #[.agg #[.int .i16 u, .int .i16 v, .float .f32 l]] w (RV (.float .f32 (quoT u v)) w)) :
    Calls Try.prog 71 #[.agg #[.int .i16 a, .int .i16 b, .int .i16 c, .int .i16 d], .slice A n k] w (RF (f2 .mul (cn (quoT x y)) (cn (quoT u v))) w) := by
  obtain ⟨R, N, hR, hC⟩ := ops_fun Try.prog 26; have ra := hR .add rfl; have rs := hR .sub rfl; have rm := hR .mul rfl; have rq := hR .quo rfl; have HC := Lib.hid hC; clear hC hR
  have HT := Lib.hid hT; clear hT
  have Hl := Lib.hid hl; clear hl
  have Hx := Lib.hid hx; have Hy := Lib.hid hy; have Hu := Lib.hid hu; have Hv := Lib.hid hv
  clear hx hy hu hv
  obtain ⟨q1, hq1⟩ : ∃ q, quoT x y = q := ⟨_, rfl⟩
  obtain ⟨q2, hq2⟩ : ∃ q, quoT u v = q := ⟨_, rfl⟩
  rw [hq1] at hf1 ⊢
  rw [hq2] at hf2 ⊢
  clear hq1 hq2
  have Hf1 := Lib.hid hf1; have Hf2 := Lib.hid hf2
  clear hf1 hf2
  have k0 := Lib.hid (AtCh.new w ⟨(a : Int), (b : Int), (c : Int), (d : Int)⟩)
  obtain ⟨c0, c1, c2, c3⟩ := k0.out.cells
  dsimp only at c0 c1 c2 c3
  have kat : Hid (∀ W, Below (w.heap.size + 1) (w.alloc (.cells #[.int .i16 a, .int .i16 b, .int .i16 c, .int .i16 d] 38)) W → AtCh W w.heap.size ⟨(a : Int), (b : Int), (c : Int), (d : Int)⟩) := fun W hW => k0.out.under (Nat.lt_succ_self _) hW
  have hsz : (w.alloc (.cells #[.int .i16 a, .int .i16 b, .int .i16 c, .int .i16 d] 38)).heap.size = w.heap.size + 1 := by simp
  have Hsz := Lib.hid hsz
  clear hsz
  go_enter Try.func71, Try.ntmps71
  go_wp2_with fail
  go_region_law (first
    | (go_simp; go_at_call 66; first
        | ((with_reducible refine (pairIn_any A n k a b zs x y _ Hl.out Hx.out Hy.out hn (HT.out.keep ?_)).mono ?_); (focus (repeat (first | exact Below.refl _ _ | refine b_drewN ?_ _ | refine b_drew ?_ | refine b_alloc ?_ _ | refine b_then ?_ (by assumption)))); rintro e w1 ⟨rfl, b1⟩; obtain ⟨d0, d1, d2, d3⟩ := (kat.out w1 (by rw [← Hsz.out]; (repeat (first | exact Below.refl _ _ | refine b_drewN ?_ _ | refine b_drew ?_ | refine b_alloc ?_ _ | refine b_then ?_ (by assumption))))).cells; dsimp only at d0 d1 d2 d3; dsimp only)
        | ((with_reducible refine (pairIn_any A n k c d zs u v _ Hl.out Hu.out Hv.out hn (HT.out.keep ?_)).mono ?_); (focus (repeat (first | exact Below.refl _ _ | refine b_drewN ?_ _ | refine b_drew ?_ | refine b_alloc ?_ _ | refine b_then ?_ (by assumption)))); rintro e w2 ⟨rfl, b2⟩; obtain ⟨d0, d1, d2, d3⟩ := (kat.out w2 (by rw [← Hsz.out]; (repeat (first | exact Below.refl _ _ | refine b_drewN ?_ _ | refine b_drew ?_ | refine b_alloc ?_ _ | refine b_then ?_ (by assumption))))).cells; dsimp only at d0 d1 d2 d3; dsimp only))
    | (go_simp; go_at_call 67; first
        | ((with_reducible refine (Hf1.out _ _).mono ?_); rintro e w3 ⟨rfl, b3⟩; obtain ⟨d0, d1, d2, d3⟩ := (kat.out w3 (by rw [← Hsz.out]; (repeat (first | exact Below.refl _ _ | refine b_drewN ?_ _ | refine b_drew ?_ | refine b_alloc ?_ _ | refine b_then ?_ (by assumption))))).cells; dsimp only at d0 d1 d2 d3; dsimp only)
        | ((with_reducible refine (Hf2.out _ _).mono ?_); rintro e w4 ⟨rfl, b4⟩; obtain ⟨d0, d1, d2, d3⟩ := (kat.out w4 (by rw [← Hsz.out]; (repeat (first | exact Below.refl _ _ | refine b_drewN ?_ _ | refine b_drew ?_ | refine b_alloc ?_ _ | refine b_then ?_ (by assumption))))).cells; dsimp only at d0 d1 d2 d3; dsimp only)))
  all_goals
    go_wp2_with fail
    go_ret
    refine ⟨_, rfl, ?_, ?_⟩
    · unfold CN
      simp only [HC.out .add rfl, HC.out .mul rfl, HC.out .quo rfl, HC.out .sub rfl]
    · (repeat (first | exact Below.refl _ _ | refine b_drewN ?_ _ | refine b_drew ?_ | refine b_alloc ?_ _ | refine b_then ?_ (by assumption)))
set_option maxHeartbeats 4000000 in
theorem implChoice_any (A : Option Addr) (n k : Nat) (zs : List Int) (C : Ch) (w : World) (hl : zs.length = n) (hn : n ≤ 1048576) (hw : ∀ z ∈ zs, I16 z) (hT : Ii w w.heap.size A zs) (hC : I16 C.a ∧ I16 C.b ∧ I16 C.c ∧ I16 C.d) :
    Calls Try.prog 26 #[.slice A n k, .agg #[.int .i16 C.a, .int .i16 C.b, .int .i16 C.c, .int .i16 C.d]] w (RFC (zeroIf (codeW zs (chL C)) (choiceC zs C)) (codeW zs (chL C)) w) := by
  obtain ⟨a, b, c, d⟩ := C
  obtain ⟨ha, hb, hc, hd⟩ := hC
  unfold chL choiceC
  dsimp only at *
  have HT := Lib.hid hT; clear hT
  have Hl := Lib.hid hl; clear hl
  have Hw := Lib.hid hw; clear hw
  obtain ⟨K, hK0⟩ : ∃ K, codeW zs [a, b, c, d] = K := ⟨_, rfl⟩
  have hE := fun W (hb0 : Below w.heap.size w W) => choiceError_is A n k zs a b c d W hK0 Hl.out hn Hw.out (HT.out.keep hb0) ha hb hc hd
  have HE := Lib.hid hE
  clear hE ha hb hc hd
  rw [hK0]
  have h0 := Lib.hid (AtCh.new w ⟨a, b, c, d⟩)
  obtain ⟨c0, c1, c2, c3⟩ := h0.out.cells
  dsimp only at c0 c1 c2 c3
  rcases codeW_cases hK0 with rfl | rfl | rfl | rfl
  · obtain ⟨hz, hin⟩ := codeW_zero hK0
    clear hK0
    obtain ⟨ia, x, rfl, hx, hi1, x1, x2, wi1⟩ := wheel_of hz (inB_at hin (x := a) (by simp))
    obtain ⟨ib, y, rfl, hy, hi2, y1, y2, wi2⟩ := wheel_of hz (inB_at hin (x := b) (by simp))
    obtain ⟨ic, u, rfl, hu, hi3, u1, u2, wi3⟩ := wheel_of hz (inB_at hin (x := c) (by simp))
    obtain ⟨id, v, rfl, hv, hi4, v1, v2, wi4⟩ := wheel_of hz (inB_at hin (x := d) (by simp))
    have hr := Lib.hid (show f2 .mul (pairC zs ia ib) (pairC zs ic id) = f2 .mul (cn (quoT x y)) (cn (quoT u v)) by rw [pairC_of hx hy, pairC_of hu hv])
    have Hf := Lib.hid (fun W (hb0 : Below w.heap.size w W) => implFactor_any A n k zs ia ib ic id x y u v W Hl.out hn (HT.out.keep hb0) hx hy hu hv (fun l w => forward_any x1 x2 y1 y2 l w) (fun l w => forward_any u1 u2 v1 v2 l w))
    clear hx hy hu hv hz hin x1 x2 y1 y2 u1 u2 v1 v2 hi1 hi2 hi3 hi4 wi1 wi2 wi3 wi4
    generalize f2 .mul (cn (quoT x y)) (cn (quoT u v)) = Q at *
    go_enter Try.func26, Try.ntmps26
    go_wp2_with (first | (go_at_call 70; refine (HE.out _ (by (repeat (first | exact Below.refl _ _ | refine b_drewN ?_ _ | refine b_drew ?_ | refine b_alloc ?_ _ | refine b_then ?_ (by assumption))))).mono ?_; rintro e w1 ⟨rfl, b1⟩; obtain ⟨d0, d1, d2, d3⟩ := (h0.out.on (by rfl) b1).cells; dsimp only at d0 d1 d2 d3) | (go_at_call 71; refine (Hf.out _ (by (repeat (first | exact Below.refl _ _ | refine b_drewN ?_ _ | refine b_drew ?_ | refine b_alloc ?_ _ | refine b_then ?_ (by assumption))))).mono ?_; rintro e w2 ⟨r, rfl, hrr, b2⟩))
    go_ret2
    refine ⟨_, rfl, ?_, ?_⟩
    · unfold CN zeroIf at *
      rw [if_pos rfl, hr.out, hrr]
    · (repeat (first | exact Below.refl _ _ | refine b_drewN ?_ _ | refine b_drew ?_ | refine b_alloc ?_ _ | refine b_then ?_ (by assumption)))
  all_goals
    clear hK0
    go_enter Try.func26, Try.ntmps26
    go_wp2_with (first | (go_at_call 70; refine (HE.out _ (by (repeat (first | exact Below.refl _ _ | refine b_drewN ?_ _ | refine b_drew ?_ | refine b_alloc ?_ _ | refine b_then ?_ (by assumption))))).mono ?_; rintro e w1 ⟨rfl, b1⟩))
    go_ret2
    refine ⟨_, rfl, by rfl, ?_⟩
    (repeat (first | exact Below.refl _ _ | refine b_drewN ?_ _ | refine b_drew ?_ | refine b_alloc ?_ _ | refine b_then ?_ (by assumption)))
set_option maxHeartbeats 8000000 in
theorem l05Choice_any (A : Option Addr) (n k : Nat) (zs : List Int) (a b c d : Int) (w : World) (hl : zs.length = n) (hn : n ≤ 1048576) (hw : ∀ z ∈ zs, I16 z) (hT : Ii w w.heap.size A zs) (ha : I16 a) (hb : I16 b) (hc : I16 c) (hd : I16 d) :
    Calls Try.prog 68 #[.slice A n k, .agg #[.int .i16 a, .int .i16 b, .int .i16 c, .int .i16 d]] w (RV (.int .i64 (codeW zs [a, b, c, d])) w) := by
  have HT := Lib.hid hT; clear hT
  have Hl := Lib.hid hl; clear hl
  have Hw := Lib.hid hw; clear hw
  have h0 := Lib.hid (AtCh.new w ⟨a, b, c, d⟩)
  obtain ⟨ha1, ha2⟩ := ha
  obtain ⟨hb1, hb2⟩ := hb
  obtain ⟨hc1, hc2⟩ := hc
  obtain ⟨hd1, hd2⟩ := hd
  rcases Bool.eq_false_or_eq_true (okZ zs) with hz | hz
  rotate_left
  · have Ho := Lib.hid (fun W (hb0 : Below w.heap.size w W) => specOk_is (w := W) (c := k) hz Hl.out hn Hw.out (HT.out.keep hb0))
    have hk : codeW zs [a, b, c, d] = 1 := by unfold codeW; rw [hz]; rfl
    rw [hk]
    clear hz hk
    go_enter Try.func68, Try.ntmps68
    go_wp2_with (go_at_call 55; refine (Ho.out _ (by (repeat (first | exact Below.refl _ _ | refine b_drewN ?_ _ | refine b_drew ?_ | refine b_alloc ?_ _ | refine b_then ?_ (by assumption))))).mono ?_; rintro e w1 ⟨rfl, b1⟩; obtain ⟨d0, d1, d2, d3⟩ := (h0.out.on (by rfl) b1).cells; dsimp only at d0 d1 d2 d3)
    go_ret
    refine ⟨rfl, ?_⟩
    (repeat (first | exact Below.refl _ _ | refine b_drewN ?_ _ | refine b_drew ?_ | refine b_alloc ?_ _ | refine b_then ?_ (by assumption)))
  have Ho := Lib.hid (fun W (hb0 : Below w.heap.size w W) => specOk_is (w := W) (c := k) hz Hl.out hn Hw.out (HT.out.keep hb0))
  have hk : codeW zs [a, b, c, d] = if (wB n a && (wB n b && (wB n c && wB n d))) then (if (a == b || (a == c || (a == d || (b == c || (b == d || c == d))))) then 4 else 0) else 2 := by unfold codeW; rw [hz, inB_four, dupB_four, Hl.out]; rfl
  clear hz
  rcases Bool.eq_false_or_eq_true (wB n a) with ha | ha <;> rcases Bool.eq_false_or_eq_true (wB n b) with hb | hb <;> rcases Bool.eq_false_or_eq_true (wB n c) with hc | hc <;> rcases Bool.eq_false_or_eq_true (wB n d) with hd | hd
  all_goals
    have wa := Lib.hid (fun w => l05Wheel_is A k ha hn w)
    have wb := Lib.hid (fun w => l05Wheel_is A k hb hn w)
    have wc := Lib.hid (fun w => l05Wheel_is A k hc hn w)
    have wd := Lib.hid (fun w => l05Wheel_is A k hd hn w)
    rw [ha, hb, hc, hd] at hk
    simp only [Bool.and_false, Bool.false_and, Bool.and_self, Bool.and_true, if_true, if_false, Bool.false_eq_true] at hk
    clear ha hb hc hd
  · rcases Bool.eq_false_or_eq_true (a == b) with g0 | g0
    · have hE := Lib.hid (show codeW zs [a, b, c, d] = 4 by rw [hk]; simp only [g0, Bool.true_or, Bool.false_or, Bool.or_true, Bool.or_false, if_true, if_false, Bool.false_eq_true])
      clear hk
      go_enter Try.func68, Try.ntmps68
      go_wp2_with (first | (go_at_call 55; refine (Ho.out _ (by (repeat (first | exact Below.refl _ _ | refine b_drewN ?_ _ | refine b_drew ?_ | refine b_alloc ?_ _ | refine b_then ?_ (by assumption))))).mono ?_; rintro e w1 ⟨rfl, b1⟩; obtain ⟨d0, d1, d2, d3⟩ := (h0.out.on (by rfl) b1).cells; dsimp only at d0 d1 d2 d3) | (go_at_call 63; first | ((with_reducible refine (wa.out _).mono ?_); rintro e w2 ⟨rfl, rfl⟩) | ((with_reducible refine (wb.out _).mono ?_); rintro e w2 ⟨rfl, rfl⟩) | ((with_reducible refine (wc.out _).mono ?_); rintro e w2 ⟨rfl, rfl⟩) | ((with_reducible refine (wd.out _).mono ?_); rintro e w2 ⟨rfl, rfl⟩)))
      go_ret
      refine ⟨by rw [hE.out]; rfl, ?_⟩
      (repeat (first | exact Below.refl _ _ | refine b_drewN ?_ _ | refine b_drew ?_ | refine b_alloc ?_ _ | refine b_then ?_ (by assumption)))
    rcases Bool.eq_false_or_eq_true (a == c) with g1 | g1
    · have hE := Lib.hid (show codeW zs [a, b, c, d] = 4 by rw [hk]; simp only [g0, g1, Bool.true_or, Bool.false_or, Bool.or_true, Bool.or_false, if_true, if_false, Bool.false_eq_true])
      clear hk
      go_enter Try.func68, Try.ntmps68
      go_wp2_with (first | (go_at_call 55; refine (Ho.out _ (by (repeat (first | exact Below.refl _ _ | refine b_drewN ?_ _ | refine b_drew ?_ | refine b_alloc ?_ _ | refine b_then ?_ (by assumption))))).mono ?_; rintro e w1 ⟨rfl, b1⟩; obtain ⟨d0, d1, d2, d3⟩ := (h0.out.on (by rfl) b1).cells; dsimp only at d0 d1 d2 d3) | (go_at_call 63; first | ((with_reducible refine (wa.out _).mono ?_); rintro e w2 ⟨rfl, rfl⟩) | ((with_reducible refine (wb.out _).mono ?_); rintro e w2 ⟨rfl, rfl⟩) | ((with_reducible refine (wc.out _).mono ?_); rintro e w2 ⟨rfl, rfl⟩) | ((with_reducible refine (wd.out _).mono ?_); rintro e w2 ⟨rfl, rfl⟩)))
      go_ret
      refine ⟨by rw [hE.out]; rfl, ?_⟩
      (repeat (first | exact Below.refl _ _ | refine b_drewN ?_ _ | refine b_drew ?_ | refine b_alloc ?_ _ | refine b_then ?_ (by assumption)))
    rcases Bool.eq_false_or_eq_true (a == d) with g2 | g2
    · have hE := Lib.hid (show codeW zs [a, b, c, d] = 4 by rw [hk]; simp only [g0, g1, g2, Bool.true_or, Bool.false_or, Bool.or_true, Bool.or_false, if_true, if_false, Bool.false_eq_true])
      clear hk
      go_enter Try.func68, Try.ntmps68
      go_wp2_with (first | (go_at_call 55; refine (Ho.out _ (by (repeat (first | exact Below.refl _ _ | refine b_drewN ?_ _ | refine b_drew ?_ | refine b_alloc ?_ _ | refine b_then ?_ (by assumption))))).mono ?_; rintro e w1 ⟨rfl, b1⟩; obtain ⟨d0, d1, d2, d3⟩ := (h0.out.on (by rfl) b1).cells; dsimp only at d0 d1 d2 d3) | (go_at_call 63; first | ((with_reducible refine (wa.out _).mono ?_); rintro e w2 ⟨rfl, rfl⟩) | ((with_reducible refine (wb.out _).mono ?_); rintro e w2 ⟨rfl, rfl⟩) | ((with_reducible refine (wc.out _).mono ?_); rintro e w2 ⟨rfl, rfl⟩) | ((with_reducible refine (wd.out _).mono ?_); rintro e w2 ⟨rfl, rfl⟩)))
      go_ret
      refine ⟨by rw [hE.out]; rfl, ?_⟩
      (repeat (first | exact Below.refl _ _ | refine b_drewN ?_ _ | refine b_drew ?_ | refine b_alloc ?_ _ | refine b_then ?_ (by assumption)))
    rcases Bool.eq_false_or_eq_true (b == c) with g3 | g3
    · have hE := Lib.hid (show codeW zs [a, b, c, d] = 4 by rw [hk]; simp only [g0, g1, g2, g3, Bool.true_or, Bool.false_or, Bool.or_true, Bool.or_false, if_true, if_false, Bool.false_eq_true])
      clear hk
      go_enter Try.func68, Try.ntmps68
      go_wp2_with (first | (go_at_call 55; refine (Ho.out _ (by (repeat (first | exact Below.refl _ _ | refine b_drewN ?_ _ | refine b_drew ?_ | refine b_alloc ?_ _ | refine b_then ?_ (by assumption))))).mono ?_; rintro e w1 ⟨rfl, b1⟩; obtain ⟨d0, d1, d2, d3⟩ := (h0.out.on (by rfl) b1).cells; dsimp only at d0 d1 d2 d3) | (go_at_call 63; first | ((with_reducible refine (wa.out _).mono ?_); rintro e w2 ⟨rfl, rfl⟩) | ((with_reducible refine (wb.out _).mono ?_); rintro e w2 ⟨rfl, rfl⟩) | ((with_reducible refine (wc.out _).mono ?_); rintro e w2 ⟨rfl, rfl⟩) | ((with_reducible refine (wd.out _).mono ?_); rintro e w2 ⟨rfl, rfl⟩)))
      go_ret
      refine ⟨by rw [hE.out]; rfl, ?_⟩
      (repeat (first | exact Below.refl _ _ | refine b_drewN ?_ _ | refine b_drew ?_ | refine b_alloc ?_ _ | refine b_then ?_ (by assumption)))
    rcases Bool.eq_false_or_eq_true (b == d) with g4 | g4
    · have hE := Lib.hid (show codeW zs [a, b, c, d] = 4 by rw [hk]; simp only [g0, g1, g2, g3, g4, Bool.true_or, Bool.false_or, Bool.or_true, Bool.or_false, if_true, if_false, Bool.false_eq_true])
      clear hk
      go_enter Try.func68, Try.ntmps68
      go_wp2_with (first | (go_at_call 55; refine (Ho.out _ (by (repeat (first | exact Below.refl _ _ | refine b_drewN ?_ _ | refine b_drew ?_ | refine b_alloc ?_ _ | refine b_then ?_ (by assumption))))).mono ?_; rintro e w1 ⟨rfl, b1⟩; obtain ⟨d0, d1, d2, d3⟩ := (h0.out.on (by rfl) b1).cells; dsimp only at d0 d1 d2 d3) | (go_at_call 63; first | ((with_reducible refine (wa.out _).mono ?_); rintro e w2 ⟨rfl, rfl⟩) | ((with_reducible refine (wb.out _).mono ?_); rintro e w2 ⟨rfl, rfl⟩) | ((with_reducible refine (wc.out _).mono ?_); rintro e w2 ⟨rfl, rfl⟩) | ((with_reducible refine (wd.out _).mono ?_); rintro e w2 ⟨rfl, rfl⟩)))
      go_ret
      refine ⟨by rw [hE.out]; rfl, ?_⟩
      (repeat (first | exact Below.refl _ _ | refine b_drewN ?_ _ | refine b_drew ?_ | refine b_alloc ?_ _ | refine b_then ?_ (by assumption)))
    rcases Bool.eq_false_or_eq_true (c == d) with g5 | g5
    · have hE := Lib.hid (show codeW zs [a, b, c, d] = 4 by rw [hk]; simp only [g0, g1, g2, g3, g4, g5, Bool.true_or, Bool.false_or, Bool.or_true, Bool.or_false, if_true, if_false, Bool.false_eq_true])
      clear hk
      go_enter Try.func68, Try.ntmps68
      go_wp2_with (first | (go_at_call 55; refine (Ho.out _ (by (repeat (first | exact Below.refl _ _ | refine b_drewN ?_ _ | refine b_drew ?_ | refine b_alloc ?_ _ | refine b_then ?_ (by assumption))))).mono ?_; rintro e w1 ⟨rfl, b1⟩; obtain ⟨d0, d1, d2, d3⟩ := (h0.out.on (by rfl) b1).cells; dsimp only at d0 d1 d2 d3) | (go_at_call 63; first | ((with_reducible refine (wa.out _).mono ?_); rintro e w2 ⟨rfl, rfl⟩) | ((with_reducible refine (wb.out _).mono ?_); rintro e w2 ⟨rfl, rfl⟩) | ((with_reducible refine (wc.out _).mono ?_); rintro e w2 ⟨rfl, rfl⟩) | ((with_reducible refine (wd.out _).mono ?_); rintro e w2 ⟨rfl, rfl⟩)))
      go_ret
      refine ⟨by rw [hE.out]; rfl, ?_⟩
      (repeat (first | exact Below.refl _ _ | refine b_drewN ?_ _ | refine b_drew ?_ | refine b_alloc ?_ _ | refine b_then ?_ (by assumption)))
    have hE := Lib.hid (show codeW zs [a, b, c, d] = 0 by rw [hk]; simp only [g0, g1, g2, g3, g4, g5, Bool.true_or, Bool.false_or, Bool.or_true, Bool.or_false, if_true, if_false, Bool.false_eq_true])
    clear hk
    go_enter Try.func68, Try.ntmps68
    go_wp2_with (first | (go_at_call 55; refine (Ho.out _ (by (repeat (first | exact Below.refl _ _ | refine b_drewN ?_ _ | refine b_drew ?_ | refine b_alloc ?_ _ | refine b_then ?_ (by assumption))))).mono ?_; rintro e w1 ⟨rfl, b1⟩; obtain ⟨d0, d1, d2, d3⟩ := (h0.out.on (by rfl) b1).cells; dsimp only at d0 d1 d2 d3) | (go_at_call 63; first | ((with_reducible refine (wa.out _).mono ?_); rintro e w2 ⟨rfl, rfl⟩) | ((with_reducible refine (wb.out _).mono ?_); rintro e w2 ⟨rfl, rfl⟩) | ((with_reducible refine (wc.out _).mono ?_); rintro e w2 ⟨rfl, rfl⟩) | ((with_reducible refine (wd.out _).mono ?_); rintro e w2 ⟨rfl, rfl⟩)))
    go_ret
    refine ⟨by rw [hE.out]; rfl, ?_⟩
    (repeat (first | exact Below.refl _ _ | refine b_drewN ?_ _ | refine b_drew ?_ | refine b_alloc ?_ _ | refine b_then ?_ (by assumption)))
  all_goals
    have hE := Lib.hid hk
    clear hk
    go_enter Try.func68, Try.ntmps68
    go_wp2_with (first | (go_at_call 55; refine (Ho.out _ (by (repeat (first | exact Below.refl _ _ | refine b_drewN ?_ _ | refine b_drew ?_ | refine b_alloc ?_ _ | refine b_then ?_ (by assumption))))).mono ?_; rintro e w1 ⟨rfl, b1⟩; obtain ⟨d0, d1, d2, d3⟩ := (h0.out.on (by rfl) b1).cells; dsimp only at d0 d1 d2 d3) | (go_at_call 63; first | ((with_reducible refine (wa.out _).mono ?_); rintro e w2 ⟨rfl, rfl⟩) | ((with_reducible refine (wb.out _).mono ?_); rintro e w2 ⟨rfl, rfl⟩) | ((with_reducible refine (wc.out _).mono ?_); rintro e w2 ⟨rfl, rfl⟩) | ((with_reducible refine (wd.out _).mono ?_); rintro e w2 ⟨rfl, rfl⟩)))
    go_ret
    refine ⟨by rw [hE.out]; rfl, ?_⟩
    (repeat (first | exact Below.refl _ _ | refine b_drewN ?_ _ | refine b_drew ?_ | refine b_alloc ?_ _ | refine b_then ?_ (by assumption)))
set_option maxHeartbeats 4000000 in
theorem specFactor_any (A : Option Addr) (n k : Nat) (zs : List Int) (a b c d : Nat) (x y u v : Int) (w : World) (hl : zs.length = n) (hn : n ≤ 1048576) (hT : Ii w w.heap.size A zs)
    (hx : zs[a]? = some x) (hy : zs[b]? = some y) (hu : zs[c]? = some u) (hv : zs[d]? = some v) (hf1 : ∀ w, Calls Try.prog 64 #[.int .i16 x, .int .i16 y] w fun e w' => e = .returned (.float .f32 (quoT x y)) ∧ w = w') (hf2 : ∀ w, Calls Try.prog 64 #[.int .i16 u, .int .i16 v] w fun e w' => e = .returned (.float .f32 (quoT u v)) ∧ w = w') {r : Nat} (hm : floatBits .mul .f32 (quoT x y) (quoT u v) = some r) :
    Calls Try.prog 69 #[.slice A n k, .agg #[.int .i16 a, .int .i16 b, .int .i16 c, .int .i16 d]] w (RV (.float .f32 r) w) := by
  have hla : a < n := by rw [← hl]; exact (List.getElem?_eq_some_iff.1 hx).1
  have hlb : b < n := by rw [← hl]; exact (List.getElem?_eq_some_iff.1 hy).1
  have hlc : c < n := by rw [← hl]; exact (List.getElem?_eq_some_iff.1 hu).1
  have hld : d < n := by rw [← hl]; exact (List.getElem?_eq_some_iff.1 hv).1
  obtain ⟨q1, hq1⟩ : ∃ q, quoT x y = q := ⟨_, rfl⟩
  obtain ⟨q2, hq2⟩ : ∃ q, quoT u v = q := ⟨_, rfl⟩
  rw [hq1] at hf1 hm
  rw [hq2] at hf2 hm
  clear hq1 hq2
  have rm := fun w => run_float_arith (P := Try.prog) w .mul 26 .f32 q1 q2 r hm
  clear hm
  have hg1 : ∀ w, Calls Try.prog 64 #[.int .i16 x, .int .i16 y] w fun e w' => e = .returned (.float .f32 q1) ∧ w' = w := fun w => (hf1 w).mono fun _ _ h => ⟨h.1, h.2.symm⟩
  have hg2 : ∀ w, Calls Try.prog 64 #[.int .i16 u, .int .i16 v] w fun e w' => e = .returned (.float .f32 q2) ∧ w' = w := fun w => (hf2 w).mono fun _ _ h => ⟨h.1, h.2.symm⟩
  have Hf1 := Lib.hid (fun (w : World) (n : Nat) => Calls.quiet_of_same (hg1 (w.drewN n)))
  have Hf2 := Lib.hid (fun (w : World) (n : Nat) => Calls.quiet_of_same (hg2 (w.drewN n)))
  clear hg1 hg2
  clear hf1 hf2
  obtain ⟨bl, off, rfl, hbs, hcs⟩ := hT (by omega)
  obtain ⟨c0, c1, c2, c3⟩ := (AtCh.new w ⟨(a : Int), (b : Int), (c : Int), (d : Int)⟩).cells
  dsimp only at c0 c1 c2 c3
  have e0 : ∀ o, (w.alloc o).cell? ⟨bl, off + a, none⟩ = some (.int .i16 x) := fun o => (World.cell?_of_block (a := ⟨bl, off + a, none⟩) ((Below.refl _ w).alloc (Nat.le_refl _) o |>.block bl hbs)).trans (hcs a x hx)
  have e1 : ∀ o, (w.alloc o).cell? ⟨bl, off + b, none⟩ = some (.int .i16 y) := fun o => (World.cell?_of_block (a := ⟨bl, off + b, none⟩) ((Below.refl _ w).alloc (Nat.le_refl _) o |>.block bl hbs)).trans (hcs b y hy)
  have e2 : ∀ o, (w.alloc o).cell? ⟨bl, off + c, none⟩ = some (.int .i16 u) := fun o => (World.cell?_of_block (a := ⟨bl, off + c, none⟩) ((Below.refl _ w).alloc (Nat.le_refl _) o |>.block bl hbs)).trans (hcs c u hu)
  have e3 : ∀ o, (w.alloc o).cell? ⟨bl, off + d, none⟩ = some (.int .i16 v) := fun o => (World.cell?_of_block (a := ⟨bl, off + d, none⟩) ((Below.refl _ w).alloc (Nat.le_refl _) o |>.block bl hbs)).trans (hcs d v hv)
  have z0 : (0 : Int) ≤ (a : Int) := by omega
  have z1 : (a : Int) < (n : Int) := by omega
  have z2 : (0 : Int) ≤ (b : Int) := by omega
  have z3 : (b : Int) < (n : Int) := by omega
  have z4 : (0 : Int) ≤ (c : Int) := by omega
  have z5 : (c : Int) < (n : Int) := by omega
  have z6 : (0 : Int) ≤ (d : Int) := by omega
  have z7 : (d : Int) < (n : Int) := by omega
  clear hcs hx hy hu hv hl hT hla hlb hlc hld
  go_enter Try.func69, Try.ntmps69
  go_wp2_with fail
  go_quiet ((go_at_call 64; first
        | (with_reducible exact Hf1.out _ _)
        | (with_reducible exact Hf2.out _ _)))
  go_wp2
  go_ret
  refine ⟨rfl, ?_⟩
  (repeat (first | exact Below.refl _ _ | refine b_drewN ?_ _ | refine b_drew ?_ | refine b_alloc ?_ _ | refine b_then ?_ (by assumption)))
set_option maxHeartbeats 4000000 in
theorem specChoice_any (A : Option Addr) (n k : Nat) (zs : List Int) (C : Ch) (w : World) (hl : zs.length = n) (hn : n ≤ 1048576) (hw : ∀ z ∈ zs, I16 z) (hT : Ii w w.heap.size A zs) (hC : I16 C.a ∧ I16 C.b ∧ I16 C.c ∧ I16 C.d) :
    Calls Try.prog 24 #[.slice A n k, .agg #[.int .i16 C.a, .int .i16 C.b, .int .i16 C.c, .int .i16 C.d]] w (RFC (zeroIf (codeW zs (chL C)) (choiceC zs C)) (codeW zs (chL C)) w) := by
  obtain ⟨a, b, c, d⟩ := C
  obtain ⟨ha, hb, hc, hd⟩ := hC
  unfold chL choiceC
  dsimp only at *
  have HT := Lib.hid hT; clear hT
  have Hl := Lib.hid hl; clear hl
  have Hw := Lib.hid hw; clear hw
  have hE := fun W (hb0 : Below w.heap.size w W) => l05Choice_any A n k zs a b c d W Hl.out hn Hw.out (HT.out.keep hb0) ha hb hc hd
  obtain ⟨K, hK0⟩ : ∃ K, codeW zs [a, b, c, d] = K := ⟨_, rfl⟩
  rw [hK0] at hE ⊢
  have HE := Lib.hid hE
  clear hE ha hb hc hd
  have h0 := Lib.hid (AtCh.new w ⟨a, b, c, d⟩)
  obtain ⟨c0, c1, c2, c3⟩ := h0.out.cells
  dsimp only at c0 c1 c2 c3
  rcases codeW_cases hK0 with rfl | rfl | rfl | rfl
  · obtain ⟨hz, hin⟩ := codeW_zero hK0
    clear hK0
    obtain ⟨ia, x, rfl, hx, hi1, x1, x2, wi1⟩ := wheel_of hz (inB_at hin (x := a) (by simp))
    obtain ⟨ib, y, rfl, hy, hi2, y1, y2, wi2⟩ := wheel_of hz (inB_at hin (x := b) (by simp))
    obtain ⟨ic, u, rfl, hu, hi3, u1, u2, wi3⟩ := wheel_of hz (inB_at hin (x := c) (by simp))
    obtain ⟨id, v, rfl, hv, hi4, v1, v2, wi4⟩ := wheel_of hz (inB_at hin (x := d) (by simp))
    have hr := Lib.hid (show f2 .mul (pairC zs ia ib) (pairC zs ic id) = f2 .mul (cn (quoT x y)) (cn (quoT u v)) by rw [pairC_of hx hy, pairC_of hu hv])
    obtain ⟨rr, hm, _⟩ := mulT_some (quoT_rg x1 x2 y1 y2) (quoT_rg u1 u2 v1 v2)
    have Hf := Lib.hid (fun W (hb0 : Below w.heap.size w W) => specFactor_any A n k zs ia ib ic id x y u v W Hl.out hn (HT.out.keep hb0) hx hy hu hv (fun w => l01Quotient_any x1 x2 y1 y2 w) (fun w => l01Quotient_any u1 u2 v1 v2 w) hm)
    have hrm := Lib.hid (f2_of hm)
    clear hm hx hy hu hv hz hin x1 x2 y1 y2 u1 u2 v1 v2 hi1 hi2 hi3 hi4 wi1 wi2 wi3 wi4
    generalize f2 .mul (cn (quoT x y)) (cn (quoT u v)) = Q at *
    go_enter Try.func24, Try.ntmps24
    go_wp2_with (first | (go_at_call 68; refine (HE.out _ (by (repeat (first | exact Below.refl _ _ | refine b_drewN ?_ _ | refine b_drew ?_ | refine b_alloc ?_ _ | refine b_then ?_ (by assumption))))).mono ?_; rintro e w1 ⟨rfl, b1⟩; obtain ⟨d0, d1, d2, d3⟩ := (h0.out.on (by rfl) b1).cells; dsimp only at d0 d1 d2 d3) | (go_at_call 69; refine (Hf.out _ (by (repeat (first | exact Below.refl _ _ | refine b_drewN ?_ _ | refine b_drew ?_ | refine b_alloc ?_ _ | refine b_then ?_ (by assumption))))).mono ?_; rintro e w2 ⟨rfl, b2⟩))
    go_ret2
    refine ⟨_, rfl, ?_, ?_⟩
    · unfold CN zeroIf at *
      rw [if_pos rfl, hr.out, hrm.out]
    · (repeat (first | exact Below.refl _ _ | refine b_drewN ?_ _ | refine b_drew ?_ | refine b_alloc ?_ _ | refine b_then ?_ (by assumption)))
  all_goals
    clear hK0
    go_enter Try.func24, Try.ntmps24
    go_wp2_with (first | (go_at_call 68; refine (HE.out _ (by (repeat (first | exact Below.refl _ _ | refine b_drewN ?_ _ | refine b_drew ?_ | refine b_alloc ?_ _ | refine b_then ?_ (by assumption))))).mono ?_; rintro e w1 ⟨rfl, b1⟩))
    go_ret2
    refine ⟨_, rfl, by rfl, ?_⟩
    (repeat (first | exact Below.refl _ _ | refine b_drewN ?_ _ | refine b_drew ?_ | refine b_alloc ?_ _ | refine b_then ?_ (by assumption)))
theorem chW (C : Ch) (h : (Lit.int .i16 C.a).wf = true ∧ (Lit.int .i16 C.b).wf = true ∧ (Lit.int .i16 C.c).wf = true ∧ (Lit.int .i16 C.d).wf = true) : I16 C.a ∧ I16 C.b ∧ I16 C.c ∧ I16 C.d := by
  obtain ⟨h1, h2, h3, h4⟩ := h
  refine ⟨?_, ?_, ?_, ?_⟩
  · simpa [I16, Lit.wf, IntKind.min, IntKind.max, IntKind.signed, IntKind.bits] using h1
  · simpa [I16, Lit.wf, IntKind.min, IntKind.max, IntKind.signed, IntKind.bits] using h2
  · simpa [I16, Lit.wf, IntKind.min, IntKind.max, IntKind.signed, IntKind.bits] using h3
  · simpa [I16, Lit.wf, IntKind.min, IntKind.max, IntKind.signed, IntKind.bits] using h4
set_option maxRecDepth 100000 in
set_option maxHeartbeats 4000000 in
theorem walk_FnExactFactorOfChoice (A : Option Addr) (n c : Nat) (zs : List Int) (C : Ch) (wC : (Lit.int .i16 C.a).wf = true ∧ (Lit.int .i16 C.b).wf = true ∧ (Lit.int .i16 C.c).wf = true ∧ (Lit.int .i16 C.d).wf = true) (w : World) (h : IiIn w A n c zs) :
    Calls Try.prog 6 #[.slice A n c, .agg #[.int .i16 C.a, .int .i16 C.b, .int .i16 C.c, .int .i16 C.d]] w fun e w' => e = .returned (.bool true) ∧ Below w.heap.size w w' := by
  obtain ⟨hl, hnc, hc, hT, hw⟩ := h
  have Hl := Lib.hid hl; clear hl
  have HT := Lib.hid hT; clear hT
  have Hw := Lib.hid hw; clear hw
  have hnm : n ≤ maxLen := Nat.le_trans hnc hc
  unfold maxLen at hnm
  clear hnc hc
  by_cases z0 : 1048576 < (n : Int)
  · go_enter Try.func6, Try.ntmps6
    go_wp2
    go_ret
    refine ⟨rfl, ?_⟩
    repeat (first | exact Below.refl _ _ | refine b_alloc ?_ _)
  have kb : n ≤ 1048576 := by omega
  have bw : Below w.heap.size w (w.alloc (.cells #[.int .i16 C.a, .int .i16 C.b, .int .i16 C.c, .int .i16 C.d] 36)) := b_alloc (Below.refl _ _) _
  have k0 := AtLCh.new w C
  have h0 := HT.out.keep bw
  go_enter Try.func6, Try.ntmps6
  go_upto_region 3 with fail
  generalize (w.alloc (.cells #[.int .i16 C.a, .int .i16 C.b, .int .i16 C.c, .int .i16 C.d] 36)) = W at *
  have K0 := Lib.hid k0; have Bw := Lib.hid bw; have H0 := Lib.hid h0
  obtain ⟨c0, c1, c2, c3⟩ := k0.cells
  have hs0 : w.heap.size < W.heap.size := k0.lt
  clear k0 bw h0
  go_cut [5, 6] (fun s5 s6 wx => (∃ r, s5 = .float .f32 r ∧ CN r (zeroIf (codeW zs (chL C)) (choiceC zs C))) ∧ s6 = .int .i64 (codeW zs (chL C)) ∧ Below W.heap.size W wx)
  case first =>
    go_region_law (first
      | (go_simp; go_at_call 16; refine (toInts_any A n c zs _ Hl.out kb (H0.out.keep (by (repeat (first | exact Below.refl _ _ | refine b_drewN ?_ _ | refine b_drew ?_ | refine b_alloc ?_ _ | refine b_then ?_ (by assumption)))))).mono ?_; rintro e w1 ⟨rfl, m1⟩; have M1 := Lib.hid m1; have b1 := m1.2.2.2; clear m1; obtain ⟨d0, d1, d2, d3⟩ := (AtLCh.under K0.out hs0 (show Below W.heap.size W w1 by (repeat (first | exact Below.refl _ _ | refine b_drewN ?_ _ | refine b_drew ?_ | refine b_alloc ?_ _ | refine b_then ?_ (by assumption))))).cells; dsimp only)
      | (go_simp; go_at_call 25; refine (toCh_any C _).mono ?_; rintro e w2 ⟨rfl, b2⟩; obtain ⟨d0, d1, d2, d3⟩ := (AtLCh.under K0.out hs0 (show Below W.heap.size W w2 by (repeat (first | exact Below.refl _ _ | refine b_drewN ?_ _ | refine b_drew ?_ | refine b_alloc ?_ _ | refine b_then ?_ (by assumption))))).cells; dsimp only)
      | (go_simp; go_at_call 24; refine (specChoice_any _ n _ zs C _ Hl.out kb Hw.out (M1.out.ii.keep (by (repeat (first | exact Below.refl _ _ | refine b_drewN ?_ _ | refine b_drew ?_ | refine b_alloc ?_ _ | refine b_then ?_ (by assumption))))) (chW C wC)).mono ?_; rintro e w3 ⟨r, rfl, hr, b3⟩; dsimp only))
    all_goals
      go_wp2_with fail
      go_meet
      refine ⟨⟨_, rfl, hr⟩, rfl, ?_⟩
      (repeat (first | exact Below.refl _ _ | refine b_drewN ?_ _ | refine b_drew ?_ | refine b_alloc ?_ _ | refine b_then ?_ (by assumption)))
  case rest =>
    obtain ⟨⟨r1, rfl, hr1⟩, rfl, hbc⟩ := hcut
    have H1 := Lib.hid hr1; clear hr1
    have Bc := Lib.hid hbc
    have k1 := AtLCh.under K0.out hs0 hbc
    have D1 : Hid (Below w.heap.size w wc) := b_then Bw.out hbc
    clear hbc c0 c1 c2 c3
    obtain ⟨c0, c1, c2, c3⟩ := k1.cells
    have K1 := Lib.hid k1; clear k1
    go_wp2_with fail
    refine (toInts_any A n c zs _ Hl.out kb (HT.out.keep D1.out)).mono ?_
    rintro e w2 ⟨rfl, m2⟩
    have M2 := Lib.hid m2; have B2 := Lib.hid m2.2.2.2; clear m2
    have D2 : Hid (Below w.heap.size w w2) := b_then D1.out B2.out
    obtain ⟨d0, d1, d2, d3⟩ := (AtLCh.on K1.out (by rfl) B2.out).cells
    clear c0 c1 c2 c3
    go_wp2_with fail
    refine (toCh_any C _).mono ?_
    rintro e w3 ⟨rfl, b3⟩
    have B3 := Lib.hid b3; clear b3 d0 d1 d2 d3
    have D3 : Hid (Below w.heap.size w w3) := b_then D2.out B3.out
    go_wp2_with fail
    refine (implChoice_any _ n _ zs C _ Hl.out kb Hw.out (M2.out.ii.keep B3.out) (chW C wC)).mono ?_
    rintro e w4 ⟨r3, rfl, h3, b4⟩
    have H3 := Lib.hid h3; have B4 := Lib.hid b4; clear h3 b4
    have D4 : Hid (Below w.heap.size w w4) := b_then D3.out B4.out
    obtain ⟨x0, y0, m0, n0, p0, q0, t0⟩ := conv2 (H3.out.trans H1.out.symm)
    have T0 := Lib.hid t0; clear t0
    go_wp2_with fail
    refine (T0.out _ _ _).mono ?_
    rintro e zz ⟨rfl, rfl⟩
    have tok : Hid (∀ V : World, Below w4.heap.size w4 V → Calls Try.prog 16 #[.slice A n c] V fun e w' => e = .returned (.slice (some ⟨V.heap.size, 0, none⟩) n n) ∧ MadeI V w' n zs) := fun V hV => toInts_any A n c zs _ Hl.out kb ((HT.out.keep D4.out).keep hV)
    go_wp2_with fail
    refine (tok.out _ (by (repeat (first | exact Below.refl _ _ | refine b_drewN ?_ _ | refine b_drew ?_ | refine b_alloc ?_ _ | refine b_then ?_ (by assumption))))).mono ?_
    rintro e w5 ⟨rfl, m5⟩
    have M5 := Lib.hid m5; have b5 := m5.2.2.2; clear m5
    have D5 : Hid (Below w4.heap.size w4 w5) := by (repeat (first | exact Below.refl _ _ | refine b_drewN ?_ _ | refine b_drew ?_ | refine b_alloc ?_ _ | refine b_then ?_ (by assumption)))
    clear b5
    go_wp2_with fail
    refine (eqInts_same _ _ _ _ _ zs _ Hl.out kb (((M2.out.ii.keep B3.out).keep B4.out).keep D5.out) M5.out.ii).mono ?_
    rintro e wz ⟨rfl, bz⟩
    have BZ := Lib.hid (b_then (b_then D4.out D5.out) bz)
    go_wp2
    go_ret
    exact ⟨rfl, BZ.out⟩
end Go.Proofs.Yteelgnadooodeaa
