/-
  How many belts are needed.
-/
import Derived.Test.YtdfookgncokgjadBslip
namespace Go.Proofs.Ytdfookgncokgjad
open Go.RowKit Go.ChangeShapes Go.WideShapes Go.Deep
attribute [local go_sem ↓] Go.wp_at_zero Go.wp_at_succ
set_option linter.unusedVariables false
set_option linter.unusedSimpArgs false
def needFrom (f : Int → Bool) : Nat → Int → Int × Int
  | 0, _ => (0, 6)
  | k + 1, n => if f n then (n, 0) else needFrom f k (n + 1)
def needB (B : Bl) (t m : Nat) (n : Int) : Bool := oGe (f2 .mul (torqC B t) (fint n)) (sizeC m)
def needR (B : Bl) (t m : Nat) : Int × Int := needFrom (needB B t m) 12 1
theorem need_of {B : Bl} {t m r o s : Nat} {n : Int} (hr : cn r = f2 .mul (cn o) (cn (floatOfInt .f32 n))) (ho : CN o (torqC B t)) (hs : CN s (sizeC m)) : needB B t m n = oGe r s := by
  unfold CN at ho hs
  rw [cn_fint, ho] at hr
  unfold needB
  exact oGe_cn (by rw [← hr, cn_cn]) (by rw [← hs, cn_cn])
theorem need_t {B : Bl} {t m j : Nat} {n : Int} (h : needFrom (needB B t m) (j + 1) n = needR B t m) (hc : needB B t m n = true) : needR B t m = (n, 0) := by
  rw [← h, needFrom, hc, if_pos rfl]
theorem need_f {B : Bl} {t m j : Nat} {n : Int} (h : needFrom (needB B t m) (j + 1) n = needR B t m) (hc : needB B t m n = false) : needFrom (needB B t m) j (n + 1) = needR B t m := by
  rw [← h, needFrom, hc, if_neg Bool.false_ne_true]
def RN (p : Int × Int) (w : World) (e : Ending) (w' : World) : Prop := e = .returned (.tuple #[.int .i64 p.1, .int .i64 p.2]) ∧ Below w.heap.size w w'
def needAll (B : Bl) (t m : Nat) : Int × Int := if codeP B t m = 0 then needR B t m else (0, codeP B t m)
theorem ge_p {x y : Nat} (h : FloatKind.f32.format.order x y = some .gt ∨ FloatKind.f32.format.order x y = some .eq) : oGe x y = true := by
  unfold oGe; rcases h with h | h <;> simp [h]
theorem ge_q {x y : Nat} (h : ¬ (FloatKind.f32.format.order x y = some .gt ∨ FloatKind.f32.format.order x y = some .eq)) : oGe x y = false := by
  simpa [oGe] using h
set_option maxHeartbeats 4000000 in
theorem implNeed_0 {B : Bl} {t m : Nat} (hm : m < 4294967296) (hc : codeP B t m = 0) (w : World) : Calls Try.prog 20 #[.agg #[.float .f32 B.a, .float .f32 B.b, .float .f32 B.ap, .float .f32 B.g, .bool B.x], .float .f32 t, .float .f32 m] w (RN (needR B t m) w) := by
  obtain ⟨R, N, hR, hC⟩ := ops_fun Try.prog 22; have ra := hR .add rfl; have rs := hR .sub rfl; have rm := hR .mul rfl; have rq := hR .quo rfl; have HC := Lib.hid hC; clear hC hR
  have Hc := Lib.hid hc
  have Hm := Lib.hid hm
  clear hc hm
  · go_enter Try.func20, Try.ntmps20
    go_wp2_with (first | (go_at_call 47; refine (implAsk_is Hc.out _).mono ?_; rintro e w1 ⟨rfl, b1⟩; have A1 := Lib.hid ((At.new w B).below b1); obtain ⟨c0, c1, c2, c3, c4⟩ := A1.out.cells) | (go_at_call 56; refine (implTorq_any B _ _).mono ?_; rintro e w2 ⟨ro, rfl, ho, b2⟩) | (go_at_call 49; refine (implSize_any _ Hm.out _).mono ?_; rintro e w3 ⟨rz, rfl, hs, b3⟩))
    have ho := Lib.hid ho
    go_loopw [11] (fun i wr => ∃ (k : Nat) (n : Int), k ≤ 12 ∧ n = 13 - (k : Int) ∧ i = .int .i64 n ∧ Hid (needFrom (needB B t m) k n = needR B t m) ∧ Below w.heap.size w wr) (fun i _ => (13 - intOf i).toNat)
    case atStart =>
      refine ⟨12, 1, by omega, by omega, rfl, by show _ = _; rfl, ?_⟩
      (repeat (first | exact Below.refl _ _ | refine b_drewN ?_ _ | refine b_drew ?_ | refine b_alloc ?_ _ | refine b_then ?_ (by assumption)))
    case round =>
      obtain ⟨k, n, hk, hn, rfl, hp, hb⟩ := hrel
      have n1 : 1 ≤ n := by omega
      have n2 : n ≤ 13 := by omega
      have Hn := Lib.hid hn
      clear hn
      by_cases hlt : n ≤ 12
      · obtain ⟨j, rfl⟩ : ∃ j, k = j + 1 := ⟨k - 1, by have := Hn.out; omega⟩
        have Hq := Lib.hid (hp : needFrom (needB B t m) (j + 1) n = needR B t m)
        clear hp
        go_wp2
        all_goals
          have hcmp : Hid (∀ W, needB B t m n = oGe (R .mul ro (floatOfInt .f32 n) W) rz) := fun W => need_of (HC.out .mul rfl _ _ _) ho.out hs
          first
            | (have hc : Hid (needB B t m n = true) := by (show _ = _; rw [hcmp.out _]; first | exact ge_t (by assumption) | exact ge_p (by assumption)))
            | (have hc : Hid (needB B t m n = false) := by (show _ = _; rw [hcmp.out _]; first | exact ge_f (by assumption) | exact ge_q (by assumption)))
          first
            | (have e := need_t Hq.out hc.out
               go_ret2
               refine ⟨by rw [e]; rfl, ?_⟩
               (repeat (first | exact Below.refl _ _ | refine b_drewN ?_ _ | refine b_drew ?_ | refine b_alloc ?_ _ | refine b_then ?_ (by assumption))))
            | (rename_i hx
               clear hx
               go_roundw
               case rel =>
                 refine ⟨j, n + 1, by omega, by have := Hn.out; omega, by go_num, need_f Hq.out hc.out, ?_⟩
                 (repeat (first | exact Below.refl _ _ | refine b_drewN ?_ _ | refine b_drew ?_ | refine b_alloc ?_ _ | refine b_then ?_ (by assumption)))
               case measure => simp [intOf]; omega)
      · obtain rfl : n = 13 := by omega
        obtain rfl : k = 0 := by have := Hn.out; omega
        have e : needR B t m = (0, 6) := hp.out.symm
        have He := Lib.hid e
        clear e hp
        go_wp2
        go_ret2
        refine ⟨by rw [He.out]; rfl, ?_⟩
        (repeat (first | exact Below.refl _ _ | refine b_drewN ?_ _ | refine b_drew ?_ | refine b_alloc ?_ _ | refine b_then ?_ (by assumption)))
set_option maxHeartbeats 4000000 in
theorem specNeed_0 {B : Bl} {t m : Nat} (hc : codeP B t m = 0) (w : World) : Calls Try.prog 19 #[.agg #[.float .f32 B.a, .float .f32 B.b, .float .f32 B.ap, .float .f32 B.g, .bool B.x], .float .f32 t, .float .f32 m] w (RN (needR B t m) w) := by
  obtain ⟨R, N, hR, hC⟩ := ops_fun Try.prog 22; have ra := hR .add rfl; have rs := hR .sub rfl; have rm := hR .mul rfl; have rq := hR .quo rfl; have HC := Lib.hid hC; clear hC hR
  have h0 := Lib.hid (At.new w B)
  have Hc := Lib.hid hc
  clear hc
  go_enter Try.func19, Try.ntmps19
  go_wp2_with (go_at_call 44; refine (specAsk_is Hc.out _ _ (At.same h0.out (by rfl))).mono ?_; rintro e w1 ⟨rfl, b1⟩; have h5 := Lib.hid (At.on h0.out (by rfl) b1); obtain ⟨c0, c1, c2, c3, c4⟩ := h5.out.cells)
  go_region_law (go_simp; go_at_call 45; refine (specPull_any B _ _ _ (At.same h5.out (by rfl))).mono ?_; rintro e w2 ⟨rp, rfl, hp, b2⟩; have A2 := Lib.hid (At.on h5.out (by rfl) b2); obtain ⟨d0, d1, d2, d3, d4⟩ := A2.out.cells; dsimp only)
  all_goals
    have ht : Hid (∀ W, CN (R .mul rp B.a W) (torqC B t)) := fun W => by
      unfold CN torqC at *
      rw [HC.out .mul rfl, hp]
    go_wp2
    obtain ⟨ro, hro⟩ : ∃ ro, R .mul rp B.a w2 = ro := ⟨_, rfl⟩
    have ho : Hid (CN ro (torqC B t)) := by rw [← hro]; exact ht.out _
    rw [hro]
    clear hro ht hp
    go_loopw [10] (fun i wr => ∃ (k : Nat) (n : Int), k ≤ 12 ∧ n = 13 - (k : Int) ∧ i = .int .i64 n ∧ Hid (needFrom (needB B t m) k n = needR B t m) ∧ Below w.heap.size w wr) (fun i _ => (13 - intOf i).toNat)
    case atStart =>
      refine ⟨12, 1, by omega, by omega, rfl, by show _ = _; rfl, ?_⟩
      (repeat (first | exact Below.refl _ _ | refine b_drewN ?_ _ | refine b_drew ?_ | refine b_alloc ?_ _ | refine b_then ?_ (by assumption)))
    case round =>
      obtain ⟨k, n, hk, hn, rfl, hp, hb⟩ := hrel
      have n1 : 1 ≤ n := by omega
      have n2 : n ≤ 13 := by omega
      have Hn := Lib.hid hn
      clear hn
      by_cases hlt : n ≤ 12
      · obtain ⟨j, rfl⟩ : ∃ j, k = j + 1 := ⟨k - 1, by have := Hn.out; omega⟩
        have Hq := Lib.hid (hp : needFrom (needB B t m) (j + 1) n = needR B t m)
        clear hp
        go_wp2_with (go_at_call 46; refine (specSize_any _ _).mono ?_; rintro e w3 ⟨rz, rfl, hs, rfl⟩)
        all_goals
          have hcmp : Hid (∀ W, needB B t m n = oGe (R .mul ro (floatOfInt .f32 n) W) rz) := fun W => need_of (HC.out .mul rfl _ _ _) ho.out hs
          first
            | (have hc : Hid (needB B t m n = true) := by (show _ = _; rw [hcmp.out _]; first | exact ge_t (by assumption) | exact ge_p (by assumption)))
            | (have hc : Hid (needB B t m n = false) := by (show _ = _; rw [hcmp.out _]; first | exact ge_f (by assumption) | exact ge_q (by assumption)))
          first
            | (have e := need_t Hq.out hc.out
               go_ret2
               refine ⟨by rw [e]; rfl, ?_⟩
               (repeat (first | exact Below.refl _ _ | refine b_drewN ?_ _ | refine b_drew ?_ | refine b_alloc ?_ _ | refine b_then ?_ (by assumption))))
            | (rename_i hx
               clear hx
               go_roundw
               case rel =>
                 refine ⟨j, n + 1, by omega, by have := Hn.out; omega, by go_num, need_f Hq.out hc.out, ?_⟩
                 (repeat (first | exact Below.refl _ _ | refine b_drewN ?_ _ | refine b_drew ?_ | refine b_alloc ?_ _ | refine b_then ?_ (by assumption)))
               case measure => simp [intOf]; omega)
      · obtain rfl : n = 13 := by omega
        obtain rfl : k = 0 := by have := Hn.out; omega
        have e : needR B t m = (0, 6) := hp.out.symm
        have He := Lib.hid e
        clear e hp
        go_wp2
        go_ret2
        refine ⟨by rw [He.out]; rfl, ?_⟩
        (repeat (first | exact Below.refl _ _ | refine b_drewN ?_ _ | refine b_drew ?_ | refine b_alloc ?_ _ | refine b_then ?_ (by assumption)))
theorem implNeed_any (B : Bl) (t m : Nat) (hm : m < 4294967296) (w : World) : Calls Try.prog 20 #[.agg #[.float .f32 B.a, .float .f32 B.b, .float .f32 B.ap, .float .f32 B.g, .bool B.x], .float .f32 t, .float .f32 m] w (RN (needAll B t m) w) := by
  unfold needAll
  obtain ⟨c, hc⟩ : ∃ c, codeP B t m = c := ⟨_, rfl⟩
  have h3 := codeP_cases B t m
  rw [hc] at h3
  rcases h3 with rfl | rfl | rfl
  · rw [if_pos hc]
    exact implNeed_0 hm hc w
  all_goals
    rw [if_neg (by rw [hc]; decide), hc]
    have Hc := Lib.hid hc
    clear hc hm
    go_enter Try.func20, Try.ntmps20
    go_wp2_with (go_at_call 47; refine (implAsk_is Hc.out _).mono ?_; rintro e w1 ⟨rfl, b1⟩)
    go_ret2
    refine ⟨rfl, ?_⟩
    (repeat (first | exact Below.refl _ _ | refine b_drewN ?_ _ | refine b_drew ?_ | refine b_alloc ?_ _ | refine b_then ?_ (by assumption)))
theorem specNeed_any (B : Bl) (t m : Nat) (w : World) : Calls Try.prog 19 #[.agg #[.float .f32 B.a, .float .f32 B.b, .float .f32 B.ap, .float .f32 B.g, .bool B.x], .float .f32 t, .float .f32 m] w (RN (needAll B t m) w) := by
  unfold needAll
  have h0 := Lib.hid (At.new w B)
  obtain ⟨c, hc⟩ : ∃ c, codeP B t m = c := ⟨_, rfl⟩
  have h3 := codeP_cases B t m
  rw [hc] at h3
  rcases h3 with rfl | rfl | rfl
  · rw [if_pos hc]
    exact specNeed_0 hc w
  all_goals
    rw [if_neg (by rw [hc]; decide), hc]
    have Hc := Lib.hid hc
    clear hc
    go_enter Try.func19, Try.ntmps19
    go_wp2_with (go_at_call 44; refine (specAsk_is Hc.out _ _ (At.same h0.out (by rfl))).mono ?_; rintro e w1 ⟨rfl, b1⟩)
    go_ret2
    refine ⟨rfl, ?_⟩
    (repeat (first | exact Below.refl _ _ | refine b_drewN ?_ _ | refine b_drew ?_ | refine b_alloc ?_ _ | refine b_then ?_ (by assumption)))
end Go.Proofs.Ytdfookgncokgjad
