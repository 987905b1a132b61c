/-
  The sum of numbers: both sides and the law.
-/
import Derived.Test.YtagjkagfnfonpaaFlIn2
namespace Go.Proofs.Ytagjkagfnfonpaa
open Go.RowKit Go.ChangeShapes Go.WideShapes Go.Deep
attribute [local go_sem ↓] Go.wp_at_zero Go.wp_at_succ
set_option linter.unusedVariables false
set_option linter.unusedSimpArgs false
set_option maxRecDepth 100000
def sumS (fs : List Nat) : Nat := fs.foldl (fun s x => f2 .add s (cn x)) (cn 0)
theorem sumS_snoc {fs : List Nat} {k f : Nat} (h : fs[k]? = some f) : sumS (fs.take (k + 1)) = f2 .add (sumS (fs.take k)) (cn f) := by
  unfold sumS
  rw [List.take_add_one, h, List.foldl_append]
  rfl
def codeSum (n : Nat) : Int := if 60 < n then 3 else 0
set_option maxHeartbeats 2000000 in
theorem specSum_any (A : Option Addr) (n c : Nat) (fs : List Nat) (w : World) (hl : fs.length = n) (hn : n ≤ 1048576) (hT : Fo w w.heap.size A fs) :
    Calls Try.prog 34 #[.slice A n c] w (RFC (zeroIf (codeSum n) (sumS fs)) (codeSum n) w) := by
  obtain ⟨R, N, hR, hC⟩ := ops_fun Try.prog 22; have ra := hR .add rfl; have rs := hR .sub rfl; have rm := hR .mul rfl; have rq := hR .quo rfl; have HC := Lib.hid hC; clear hC hR
  have Hl := Lib.hid hl; clear hl
  have HT := Lib.hid hT; clear hT
  by_cases hgt : 60 < (n : Int)
  · rw [show codeSum n = 3 by unfold codeSum; rw [if_pos (by omega)]]
    go_enter Try.func34, Try.ntmps34
    go_wp2
    go_ret2
    exact ⟨_, rfl, cn_lit _, Below.refl _ _⟩
  · rw [show codeSum n = 0 by unfold codeSum; rw [if_neg (by omega)]]
    go_enter Try.func34, Try.ntmps34
    go_wp2
    go_loopw [4, 5] (fun s i wr => ∃ (k r : Nat), k ≤ n ∧ i = .int .i64 k ∧ s = .float .f32 r ∧ Hid (cn r = sumS (fs.take k)) ∧ Below w.heap.size w wr) (fun _ i _ => n - (intOf i).toNat)
    case atStart => exact ⟨0, 0, Nat.zero_le _, rfl, rfl, (by show _ = _; rfl), Below.refl _ _⟩
    case round =>
      obtain ⟨k, r, hk, rfl, rfl, hp, hb⟩ := hrel
      have Hb := Lib.hid hb; clear hb
      by_cases hlt : k < n
      · have hkl : k < fs.length := by have := Hl.out; omega
        obtain ⟨b, off, rfl, hbs, hc⟩ := HT.out (by omega)
        obtain ⟨f, hf⟩ : ∃ f, fs[k]? = some f := ⟨_, List.getElem?_eq_getElem hkl⟩
        have c0 := (World.cell?_of_block (a := ⟨b, off + k, none⟩) (Hb.out.block b hbs)).trans (hc k f hf)
        have hbz : b < wr.heap.size := Nat.lt_of_lt_of_le hbs Hb.out.size
        have hs : Hid (∀ w, cn (R .add r f w) = sumS (fs.take (k + 1))) := fun w => by rw [HC.out .add rfl, sumS_snoc hf, hp.out]
        clear hc hkl hf hp
        go_wp2
        go_roundw
        case rel => exact ⟨k + 1, _, by omega, by go_num, rfl, hs.out _, b_drewN Hb.out _⟩
        case measure => simp [intOf]; omega
      · obtain rfl : k = n := by omega
        go_wp2
        go_ret2
        refine ⟨_, rfl, ?_, Hb.out⟩
        have := hp.out
        rw [List.take_of_length_le (by have := Hl.out; omega)] at this
        exact this

set_option maxHeartbeats 2000000 in
theorem implSum_any (A : Option Addr) (n c : Nat) (fs : List Nat) (w : World) (hl : fs.length = n) (hn : n ≤ 1048576) (hT : Fo w w.heap.size A fs) :
    Calls Try.prog 36 #[.slice A n c] w (RFC (zeroIf (codeSum n) (sumS fs)) (codeSum n) w) := by
  obtain ⟨R, N, hR, hC⟩ := ops_fun Try.prog 22; have ra := hR .add rfl; have rs := hR .sub rfl; have rm := hR .mul rfl; have rq := hR .quo rfl; have HC := Lib.hid hC; clear hC hR
  have Hl := Lib.hid hl; clear hl
  have HT := Lib.hid hT; clear hT
  by_cases hgt : 60 < (n : Int)
  · rw [show codeSum n = 3 by unfold codeSum; rw [if_pos (by omega)]]
    go_enter Try.func36, Try.ntmps36
    go_wp2
    go_ret2
    exact ⟨_, rfl, cn_lit _, Below.refl _ _⟩
  · rw [show codeSum n = 0 by unfold codeSum; rw [if_neg (by omega)]]
    go_enter Try.func36, Try.ntmps36
    go_wp2
    go_loopw [4, 12] (fun s i wr => ∃ (k r : Nat), k ≤ n ∧ i = .int .i64 k ∧ s = .float .f32 r ∧ Hid (cn r = sumS (fs.take k)) ∧ Below w.heap.size w wr) (fun _ i _ => n - (intOf i).toNat)
    case atStart => exact ⟨0, 0, Nat.zero_le _, rfl, rfl, (by show _ = _; rfl), Below.refl _ _⟩
    case round =>
      obtain ⟨k, r, hk, rfl, rfl, hp, hb⟩ := hrel
      have Hb := Lib.hid hb; clear hb
      by_cases hlt : k < n
      · have hkl : k < fs.length := by have := Hl.out; omega
        obtain ⟨b, off, rfl, hbs, hc⟩ := HT.out (by omega)
        obtain ⟨f, hf⟩ : ∃ f, fs[k]? = some f := ⟨_, List.getElem?_eq_getElem hkl⟩
        have c0 := (World.cell?_of_block (a := ⟨b, off + k, none⟩) (Hb.out.block b hbs)).trans (hc k f hf)
        have hbz : b < wr.heap.size := Nat.lt_of_lt_of_le hbs Hb.out.size
        have hs : Hid (∀ w, cn (R .add r f w) = sumS (fs.take (k + 1))) := fun w => by rw [HC.out .add rfl, sumS_snoc hf, hp.out]
        clear hc hkl hf hp
        go_wp2
        go_roundw
        case rel => exact ⟨k + 1, _, by omega, by go_num, rfl, hs.out _, b_drewN Hb.out _⟩
        case measure => simp [intOf]; omega
      · obtain rfl : k = n := by omega
        go_wp2
        go_ret2
        refine ⟨_, rfl, ?_, Hb.out⟩
        have := hp.out
        rw [List.take_of_length_le (by have := Hl.out; omega)] at this
        exact this

set_option maxRecDepth 100000 in
set_option maxHeartbeats 4000000 in
theorem walk_FnExactSumOf (A : Option Addr) (n c : Nat) (fs : List Nat) (w : World) (h : FlIn w A n c fs) :
    Calls Try.prog 11 #[.slice A n c] w fun e w' => e = .returned (.bool true) ∧ Below w.heap.size w w' := by
  obtain ⟨hl, hnc, hc, hT⟩ := h
  have Hl := Lib.hid hl; clear hl
  have HT := Lib.hid hT; clear hT
  have hnm : n ≤ maxLen := Nat.le_trans hnc hc
  unfold maxLen at hnm
  clear hnc hc
  by_cases z0 : 1048576 < (n : Int)
  · go_enter Try.func11, Try.ntmps11
    go_wp2
    go_ret
    exact ⟨rfl, Below.refl _ _⟩
  have kb : n ≤ 1048576 := by omega
  go_enter Try.func11, Try.ntmps11
  go_wp2_with fail
  refine (toFloats_any A n c fs _ Hl.out kb HT.out).mono ?_
  rintro e w1 ⟨rfl, m1⟩
  have M1 := Lib.hid m1; clear m1
  have B1 : Hid (Below w.heap.size w w1) := M1.out.2.2.2
  have F1 : Hid (Fo w1 w1.heap.size (some ⟨w.heap.size, 0, none⟩) fs) := fun _ => ⟨_, _, rfl, M1.out.2.2.1, fun i f hf => by rw [Nat.zero_add]; exact M1.out.2.1 i f hf⟩
  go_wp2_with fail
  refine (specSum_any _ n _ fs _ Hl.out kb F1.out).mono ?_
  rintro e w2 ⟨r2, rfl, h2, b2⟩
  have H2 := Lib.hid h2
  have B2 : Hid (Below w.heap.size w w2) := b_then B1.out b2
  clear h2 b2
  go_wp2_with fail
  refine (toFloats_any A n c fs _ Hl.out kb (HT.out.keep B2.out)).mono ?_
  rintro e w3 ⟨rfl, m3⟩
  have M3 := Lib.hid m3; clear m3
  have B3 : Hid (Below w.heap.size w w3) := b_then B2.out M3.out.2.2.2
  have F3 : Hid (Fo w3 w3.heap.size (some ⟨w2.heap.size, 0, none⟩) fs) := fun _ => ⟨_, _, rfl, M3.out.2.2.1, fun i f hf => by rw [Nat.zero_add]; exact M3.out.2.1 i f hf⟩
  go_wp2_with fail
  refine (implSum_any _ n _ fs _ Hl.out kb F3.out).mono ?_
  rintro e w4 ⟨r4, rfl, h4, b4⟩
  have H4 := Lib.hid h4
  have B4l := Lib.hid b4
  have B4 : Hid (Below w.heap.size w w4) := b_then B3.out b4
  clear h4 b4
  have tok : Hid (∀ W : World, Below w4.heap.size w4 W → Calls Try.prog 35 #[.slice A n c] W fun e w' => e = .returned (.slice (some ⟨W.heap.size, 0, none⟩) n n) ∧ MadeF W w' n fs) := fun W hW => toFloats_any A n c fs _ Hl.out kb ((HT.out.keep B4.out).keep hW)
  rcases cnx (H4.out.trans H2.out.symm) with ⟨hn2, hn1⟩ | ⟨hnn, he12⟩
  · have q1 := fun w => run_nan_wide (P := Try.prog) w 22 35 r2 (by rw [Try.underlying22]; rfl) Try.underlying35 hn1
    have q2 := fun w => run_nan_wide (P := Try.prog) w 22 35 r4 (by rw [Try.underlying22]; rfl) Try.underlying35 hn2
    clear hn1 hn2
    go_wp2_with (go_at_call 24; refine (sf_nan _ _ _ (nanTo_nan _ _) (nanTo_nan _ _)).mono ?_; rintro e w' ⟨rfl, rfl⟩)
    refine (tok.out _ (by first | exact Below.refl _ _ | exact b_drewN (Below.refl _ _) _ | exact (Below.refl _ _).drew.drew)).mono ?_
    rintro e w5 ⟨rfl, m5⟩
    have M5 := Lib.hid m5; clear m5
    have B45 : Hid (Below w4.heap.size w4 w5) := b_then (by first | exact Below.refl _ _ | exact b_drewN (Below.refl _ _) _ | exact (Below.refl _ _).drew.drew) M5.out.2.2.2
    go_wp2_with fail
    refine (eqFloats_same _ _ _ _ _ fs fs _ Hl.out rfl kb ((M3.out.fl.weak.keep B4l.out).keep B45.out) M5.out.fl.weak).mono ?_
    rintro e w6 ⟨rfl, b6⟩
    have B6 := Lib.hid (b_then (b_then B4.out B45.out) b6)
    go_wp2
    go_ret
    exact ⟨rfl, B6.out⟩
  · subst he12
    have q1 := fun w => run_wide (P := Try.prog) w 22 35 r4 (by rw [Try.underlying22]; rfl) Try.underlying35 hnn
    have q3 := (wide_some hnn).2
    clear hnn
    go_wp2_with (go_at_call 24; refine (sf_eq _ _ q3).mono ?_; rintro e w' ⟨rfl, rfl⟩)
    refine (tok.out _ (by first | exact Below.refl _ _ | exact b_drewN (Below.refl _ _) _ | exact (Below.refl _ _).drew.drew)).mono ?_
    rintro e w5 ⟨rfl, m5⟩
    have M5 := Lib.hid m5; clear m5
    have B45 : Hid (Below w4.heap.size w4 w5) := b_then (by first | exact Below.refl _ _ | exact b_drewN (Below.refl _ _) _ | exact (Below.refl _ _).drew.drew) M5.out.2.2.2
    go_wp2_with fail
    refine (eqFloats_same _ _ _ _ _ fs fs _ Hl.out rfl kb ((M3.out.fl.weak.keep B4l.out).keep B45.out) M5.out.fl.weak).mono ?_
    rintro e w6 ⟨rfl, b6⟩
    have B6 := Lib.hid (b_then (b_then B4.out B45.out) b6)
    go_wp2
    go_ret
    exact ⟨rfl, B6.out⟩
end Go.Proofs.Ytagjkagfnfonpaa
