/-
  The strongest swing.
-/
import Derived.Test.YtdpgfbmelnmkdabDoorSwh
import Derived.Deep.DeepCutAuto
namespace Go.Proofs.YtdpgfbmelnmkdabDoor
open Go.RowKit Go.ChangeShapes Go.WideShapes Go.Deep
attribute [local go_sem ↓] Go.wp_at_zero Go.wp_at_succ
set_option linter.unusedVariables false
set_option linter.unusedSimpArgs false
set_option maxRecDepth 100000

/-- The square of a point. -/
def sqPt (p : Nat × Nat) : Nat := f2 .add (f2 .mul p.1 p.1) (f2 .mul p.2 p.2)
def sqS (F : Nat → Nat) (n : Nat) : Nat := sqPt (swP F n 8)
/-- The strongest order below m, of the orders from 1 on. -/
def stJ (S : Nat → Nat) : Nat → Nat
  | 0 => 1
  | m + 1 => if m < 2 then 1 else if oGt (S m) (S (stJ S m)) then m else stJ S m
theorem stJ_two (S : Nat → Nat) : stJ S 2 = 1 := by simp [stJ]
theorem stJ_yes (S : Nat → Nat) (m : Nat) (h : 2 ≤ m) (ho : oGt (S m) (S (stJ S m)) = true) : stJ S (m + 1) = m := by rw [stJ, if_neg (by omega), if_pos ho]
theorem stJ_no (S : Nat → Nat) (m : Nat) (h : 2 ≤ m) (ho : oGt (S m) (S (stJ S m)) = false) : stJ S (m + 1) = stJ S m := by rw [stJ, if_neg (by omega), if_neg (by simp [ho])]
theorem stJ_lt (S : Nat → Nat) : ∀ m, m ≤ 8 → stJ S m < 8
  | 0, _ => by simp [stJ]
  | m + 1, h => by
    rw [stJ]
    have := stJ_lt S m (by omega)
    split
    · omega
    · split
      · omega
      · exact this
def stK (F : Nat → Nat) : Int := if plA8 F then ((stJ (sqS F) 5 : Nat) : Int) else 0
def stR (F : Nat → Nat) : Nat := if plA8 F then sqS F (stJ (sqS F) 5) else cn 0
/-- The call returns an order, its square up to which NaN it is, and a code. -/
def RT3 (F : Nat → Nat) (w : World) (e : Ending) (w' : World) : Prop := ∃ r, e = .returned (.tuple #[.int .i64 (stK F), .float .f32 r, .int .i64 (codeSw F)]) ∧ CN r (stR F) ∧ Below w.heap.size w w'
theorem l07Square_any (a b : Nat) (w : World) : Calls Tryd.prog 34 #[.complex .f32 a b] w (RF (sqPt (cn a, cn b)) w) := by
  obtain ⟨R, N, hR, hC⟩ := ops_fun Tryd.prog 22; have ra := hR .add rfl; have rs := hR .sub rfl; have rm := hR .mul rfl; have rq := hR .quo rfl; have HC := Lib.hid hC; clear hC hR
  go_enter Tryd.func34, Tryd.ntmps34
  go_wp2
  go_ret
  refine ⟨_, rfl, ?_, ?_⟩
  · show cn _ = _
    rw [HC.out .add rfl, HC.out .mul rfl, HC.out .mul rfl]
    rfl
  · (repeat (first | exact Below.refl _ _ | refine b_drewN ?_ _ | refine b_drew ?_ | refine b_alloc ?_ _ | refine b_then ?_ (by assumption)))
theorem along_any (a b : Nat) (w : World) : Calls Tryd.prog 60 #[.agg #[.float .f32 a, .float .f32 b], .agg #[.float .f32 a, .float .f32 b]] w (RF (sqPt (cn a, cn b)) w) := by
  obtain ⟨R, N, hR, hC⟩ := ops_fun Tryd.prog 22; have ra := hR .add rfl; have rs := hR .sub rfl; have rm := hR .mul rfl; have rq := hR .quo rfl; have HC := Lib.hid hC; clear hC hR
  go_enter Tryd.func60, Tryd.ntmps60
  go_wp2
  go_ret
  refine ⟨_, rfl, ?_, ?_⟩
  · show cn _ = _
    rw [HC.out .add rfl, HC.out .mul rfl, HC.out .mul rfl]
    rfl
  · (repeat (first | exact Below.refl _ _ | refine b_drewN ?_ _ | refine b_drew ?_ | refine b_alloc ?_ _ | refine b_then ?_ (by assumption)))
theorem square_any (a b : Nat) (w : World) : Calls Tryd.prog 35 #[.agg #[.float .f32 a, .float .f32 b]] w (RF (sqPt (cn a, cn b)) w) := by
  go_enter Tryd.func35, Tryd.ntmps35
  go_wp2_with fail
  refine (along_any a b _).mono ?_
  rintro e w1 ⟨r, rfl, hr, b1⟩
  go_wp2
  go_ret
  refine ⟨_, rfl, hr, ?_⟩
  (repeat (first | exact Below.refl _ _ | refine b_drewN ?_ _ | refine b_drew ?_ | refine b_alloc ?_ _ | refine b_then ?_ (by assumption)))
set_option maxHeartbeats 4000000 in
theorem specSt_any (F : Nat → Nat) (w : World) : Calls Tryd.prog 12 #[.agg #[.float .f32 (F 0), .float .f32 (F 1), .float .f32 (F 2), .float .f32 (F 3), .float .f32 (F 4), .float .f32 (F 5), .float .f32 (F 6), .float .f32 (F 7)]] w (RT3 F w) := by
  have h0 : Hid (Blk (w.alloc (.cells #[.float .f32 (F 0), .float .f32 (F 1), .float .f32 (F 2), .float .f32 (F 3), .float .f32 (F 4), .float .f32 (F 5), .float .f32 (F 6), .float .f32 (F 7)] 23)) w.heap.size #[.float .f32 (F 0), .float .f32 (F 1), .float .f32 (F 2), .float .f32 (F 3), .float .f32 (F 4), .float .f32 (F 5), .float .f32 (F 6), .float .f32 (F 7)] 23) := Blk.new _ _ _
  have Bw : Hid (Below w.heap.size w (w.alloc (.cells #[.float .f32 (F 0), .float .f32 (F 1), .float .f32 (F 2), .float .f32 (F 3), .float .f32 (F 4), .float .f32 (F 5), .float .f32 (F 6), .float .f32 (F 7)] 23))) := b_alloc (Below.refl _ _) _
  obtain ⟨kc, hkc⟩ : ∃ kc, codeSw F = kc := ⟨_, rfl⟩
  obtain ⟨ks, hks⟩ : ∃ kc, stK F = kc := ⟨_, rfl⟩
  obtain ⟨rs, hrs⟩ : ∃ kc, stR F = kc := ⟨_, rfl⟩
  obtain ⟨S, hS⟩ : ∃ S, sqS F = S := ⟨_, rfl⟩
  have HKC := Lib.hid hkc; have HKS := Lib.hid hks; have HRS := Lib.hid hrs; have HS := Lib.hid hS
  have hsw := fun n hn w' hq => Lib.hid (l07Swing_any F w.heap.size n hn w' hq)
  have HSW := Lib.hid hsw
  have hrd := Lib.hid (l07Readings_any F w.heap.size _ h0.out)
  have HSQ : Hid (∀ n x y, cn x = (swP F n 8).1 → cn y = (swP F n 8).2 → sqPt (cn x, cn y) = S n) := fun n x y hx hy => by rw [hx, hy, ← HS.out]; rfl
  clear hkc hks hrs hS hsw
  unfold RT3
  rw [HKC.out, HKS.out, HRS.out]
  cases hp : plA8 F
  · rw [hp] at hrd
    have e1 : Hid (kc = 2) := by have := HKC.out; unfold codeSw at this; rw [hp] at this; exact this.symm
    have e2 : Hid (ks = 0) := by have := HKS.out; unfold stK at this; rw [hp] at this; exact this.symm
    have e3 : Hid (rs = cn 0) := by have := HRS.out; unfold stR at this; rw [hp] at this; exact this.symm
    have Hp := Lib.hid hp
    clear hp
    go_enter Tryd.func12, Tryd.ntmps12
    go_wp2_with fail
    refine hrd.out.mono ?_
    rintro e w1 ⟨rfl, rfl⟩
    go_wp2
    go_ret3
    exact ⟨0, by rw [e1.out, e2.out]; rfl, e3.out.symm, Bw.out⟩
  · rw [hp] at hrd
    have e1 : Hid (kc = 0) := by have := HKC.out; unfold codeSw at this; rw [hp, if_pos rfl] at this; exact this.symm
    have e2 : Hid (ks = ((stJ S 5 : Nat) : Int)) := by have := HKS.out; unfold stK at this; rw [hp, if_pos rfl, HS.out] at this; exact this.symm
    have e3 : Hid (rs = S (stJ S 5)) := by have := HRS.out; unfold stR at this; rw [hp, if_pos rfl, HS.out] at this; exact this.symm
    clear hp HKC HKS HRS HS
    go_enter Tryd.func12, Tryd.ntmps12
    go_wp2_with fail
    refine hrd.out.mono ?_
    rintro e w1 ⟨rfl, rfl⟩
    generalize (w.alloc (.cells #[.float .f32 (F 0), .float .f32 (F 1), .float .f32 (F 2), .float .f32 (F 3), .float .f32 (F 4), .float .f32 (F 5), .float .f32 (F 6), .float .f32 (F 7)] 23)) = W at *
    go_wp2_with fail
    refine (HSW.out 1 (by decide) _ h0.out).out.mono ?_
    rintro e w1 ⟨x, y, rfl, hx, hy, b1⟩
    have hq1 := HSQ.out 1 x y hx hy
    have H1 := Lib.hid (Blk.on h0.out (by rfl) b1)
    have B1 : Hid (Below w.heap.size w w1) := b_then Bw.out b1
    have HQ1 := Lib.hid hq1
    clear h0 Bw b1 hq1 hx hy
    go_wp2_with fail
    refine (l07Square_any x y _).mono ?_
    rintro e w2 ⟨r1, rfl, hr1, b2⟩
    have H2 := Lib.hid (Blk.on H1.out (by rfl) b2)
    have B2 : Hid (Below w.heap.size w w2) := b_then B1.out b2
    have R1 : Hid (cn r1 = S (stJ S 2)) := by show _ = _; rw [stJ_two, ← HQ1.out]; exact hr1
    clear H1 B1 b2 hr1 HQ1 hrd
    go_wp2_with fail
    go_loopw [5, 6, 7, 8] (fun a s i t wr => ∃ (m r : Nat), 2 ≤ m ∧ m ≤ 5 ∧ i = .int .i64 (m : Int) ∧ a = .int .i64 ((stJ S m : Nat) : Int) ∧ s = .float .f32 r ∧ Hid (cn r = S (stJ S m)) ∧ Hid (Blk wr w.heap.size #[.float .f32 (F 0), .float .f32 (F 1), .float .f32 (F 2), .float .f32 (F 3), .float .f32 (F 4), .float .f32 (F 5), .float .f32 (F 6), .float .f32 (F 7)] 23) ∧ Hid (Below w.heap.size w wr)) (fun _ _ i _ _ => 8 - (intOf i).toNat)
    case atStart => exact ⟨2, r1, by omega, by omega, rfl, by rw [stJ_two]; rfl, rfl, R1, H2, B2⟩
    case round =>
      obtain ⟨m, r, hm2, hm5, rfl, rfl, rfl, hr, h0, hb⟩ := hrel
      by_cases hlt : m < 5
      · have u1 : (m : Int) ≤ 4 := by omega
        go_wp2_with fail
        refine (HSW.out m (by omega) _ h0.out).out.mono ?_
        rintro e w1 ⟨x, y, rfl, hx, hy, b1⟩
        have HQ1 := Lib.hid (HSQ.out m x y hx hy)
        have H1 := Lib.hid (Blk.on h0.out (by rfl) b1)
        have B1 : Hid (Below w.heap.size w w1) := b_then hb.out b1
        clear h0 hb b1 hx hy
        go_wp2_with fail
        refine (l07Square_any x y _).mono ?_
        rintro e w2 ⟨r1, rfl, hr1, b2⟩
        have H2 := Lib.hid (Blk.on H1.out (by rfl) b2)
        have B2 : Hid (Below w.heap.size w w2) := b_then B1.out b2
        have R1 : Hid (cn r1 = S m) := by show _ = _; rw [← HQ1.out]; exact hr1
        clear H1 B1 b2 hr1 HQ1
        have hc : oGt r1 r = oGt (S m) (S (stJ S m)) := oGt_cn (by rw [← R1.out, cn_cn]) (by rw [← hr.out, cn_cn])
        obtain ⟨t, ht⟩ : ∃ t, oGt r1 r = t := ⟨_, rfl⟩
        have hc2 := hc.symm.trans ht
        have HC2 := Lib.hid hc2
        clear hc hc2
        unfold oGt at ht
        cases t
        · have hn := Lib.hid (stJ_no S m hm2 HC2.out)
          go_wp2
          go_roundw
          case rel => exact ⟨m + 1, r, by omega, by omega, by go_num, by rw [hn.out], rfl, by rw [hn.out]; exact hr, H2, B2⟩
          case measure => simp [intOf]; omega
        · have hn := Lib.hid (stJ_yes S m hm2 HC2.out)
          go_wp2
          go_roundw
          case rel => exact ⟨m + 1, r1, by omega, by omega, by go_num, by rw [hn.out], rfl, by rw [hn.out]; exact R1, H2, B2⟩
          case measure => simp [intOf]; omega
      · obtain rfl : m = 5 := by omega
        go_wp2
        go_ret3
        exact ⟨r, by rw [e1.out, e2.out]; rfl, by rw [e3.out]; exact hr.out, hb.out⟩
end Go.Proofs.YtdpgfbmelnmkdabDoor
