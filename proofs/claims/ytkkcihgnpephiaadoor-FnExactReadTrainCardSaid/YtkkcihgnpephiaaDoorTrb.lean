/-
  The text of a train: the model's; the law.
-/
import Derived.Test.YtkkcihgnpephiaaDoorTra
namespace Go.Proofs.YtkkcihgnpephiaaDoor
open Go.RowKit Go.ChangeShapes Go.WideShapes Go.Deep
attribute [local go_sem ↓] Go.wp_at_zero Go.wp_at_succ
set_option linter.unusedVariables false
set_option linter.unusedSimpArgs false
set_option maxRecDepth 100000
theorem rgY_step {p : Px} {x y : Nat} {b o : Nat} {w W w' : World} (h : W.cell? ⟨b, o, none⟩ = some (.int .i16 x) ∧ W.cell? ⟨b, o + 1, none⟩ = some (.int .i16 y) ∧ W.cell? ⟨b, o + 2, none⟩ = some (.float .f32 p.l) ∧ Hid (Below w.heap.size w W)) (b' : Below W.heap.size W w') : w'.cell? ⟨b, o, none⟩ = some (.int .i16 x) ∧ w'.cell? ⟨b, o + 1, none⟩ = some (.int .i16 y) ∧ w'.cell? ⟨b, o + 2, none⟩ = some (.float .f32 p.l) ∧ Hid (Below w.heap.size w w') :=
  ⟨cell_on h.1 rfl b', cell_on h.2.1 rfl b', cell_on h.2.2.1 rfl b', Lib.hid (b_then h.2.2.2.out b')⟩
theorem joinStep {ps : List Px} {k : Nat} {p : Px} (h : ps[k]? = some p) : (k = 0 → bsOf (Lib.join ((txR ps).take k) [32]) ++ bsOf (txP p) = bsOf (Lib.join ((txR ps).take (k + 1)) [32])) ∧ (0 < k → bsOf (Lib.join ((txR ps).take k) [32]) ++ ⟨#[32]⟩ ++ bsOf (txP p) = bsOf (Lib.join ((txR ps).take (k + 1)) [32])) := by
  have e : (⟨#[32]⟩ : ByteArray) = bsOf [32] := rfl
  have hk : k < (txR ps).length := by rw [txR_len]; exact (List.getElem?_eq_some_iff.1 h).1
  rw [txR_take h]
  constructor
  · rintro rfl
    rw [bsOf_append]
    simp [Lib.join_one, Lib.join]
  · intro h0
    have hne : (txR ps).take k ≠ [] := fun e => by
      have := congrArg List.length e
      rw [List.length_take, List.length_nil] at this
      omega
    rw [join_snoc 32 _ _ hne, e, bsOf_append, bsOf_append]
    simp
set_option maxHeartbeats 4000000 in
theorem l01Text_any (A : Option Addr) (n c : Nat) (ps : List Px) (w : World) (hl : ps.length = n) (hk : okTr ps = true) (hw : ∀ p ∈ ps, p.wf) (hT : Px.L w w.heap.size A ps) : Calls Tryd.prog 63 #[.slice A n c] w (RV (.string (bsOf (Lib.join (txR ps) [32]))) w) := by
  have hlen := size_bounds hk
  rw [hl] at hlen
  obtain ⟨hn2, hn24⟩ := hlen
  have Hl := Lib.hid hl; have Hk := Lib.hid hk; have Hw := Lib.hid hw
  obtain ⟨b, off, rfl, hbs, hc⟩ := hT (by rw [hl]; omega)
  have Hc := Lib.hid hc
  have HSZ := Lib.hid (fun k => show (Lib.join ((txR ps).take k) [32]).length ≤ 136 from by
    have h1 := join_bound 32 16 ((txR ps).take k) (fun x hx => txR_short hk hw x (List.mem_of_mem_take hx))
    have h2 : ((txR ps).take k).length ≤ 8 := by rw [List.length_take, txR_len, hl]; omega
    omega)
  clear hT hl hk hc hw
  go_enter Tryd.func63, Tryd.ntmps63
  go_wp2_with fail
  go_loopw [3, 4] (fun v vi wr => ∃ (k : Nat), vi = .int .i64 k ∧ k ≤ n ∧ Hid (v = .string (bsOf (Lib.join ((txR ps).take k) [32]))) ∧ Hid (Below w.heap.size w wr)) (fun _ vi _ => n - (intOf vi).toNat)
  case atStart => exact ⟨0, rfl, by omega, by rfl, Below.refl _ _⟩
  case round =>
    obtain ⟨k, rfl, hkn, hv, hB⟩ := hrel
    have hv := hv.out
    by_cases hlt : k < n
    · obtain ⟨p, hp⟩ : ∃ p, ps[k]? = some p := ⟨_, List.getElem?_eq_getElem (by rw [Hl.out]; exact hlt)⟩
      obtain ⟨d0, d1, d2⟩ := cells3 (Hc.out k p hp)
      have c0 := cell_on d0 rfl hB.out
      have c1 := cell_on d1 rfl hB.out
      have c2 := cell_on d2 rfl hB.out
      obtain ⟨x, y, hnp⟩ := np_of Hk.out Hw.out hp
      obtain ⟨j0, j1⟩ := joinStep hp
      have hcat := txP_cat hnp
      rw [← hcat] at j0 j1
      obtain ⟨ha, hb, hx, hy, hlw⟩ := hnp
      rw [ha] at c0
      rw [hb] at c1
      have La := Lib.hid (fun W => decimal_any x (by omega) W)
      have Lb := Lib.hid (fun W => decimal_any y (by omega) W)
      have Lh := Lib.hid (fun W => l01Hex_any p.l hlw W)
      have wx : IntKind.i64.wrap (x : Int) = x := IntWalk.i64_in _ (by omega)
      have wy : IntKind.i64.wrap (y : Int) = y := IntWalk.i64_in _ (by omega)
      have z1 : (bsOf (Lib.decDigits x)).size ≤ 3 := by rw [bsOf_size]; exact dec200 hx
      have z2 : (bsOf (Lib.decDigits y)).size ≤ 3 := by rw [bsOf_size]; exact dec200 hy
      have z3 := h8_size (cn p.l)
      have z0 : (bsOf (Lib.join ((txR ps).take k) [32])).size ≤ 136 := by rw [bsOf_size]; exact HSZ.out k
      subst hv
      clear d0 d1 d2 hcat ha hb hx hy hlw hp
      have HJ0 := Lib.hid j0; have HJ1 := Lib.hid j1
      clear j0 j1
      generalize bsOf (Lib.join ((txR ps).take k) [32]) = T at *
      generalize bsOf (Lib.decDigits x) = t1 at *
      generalize bsOf (Lib.decDigits y) = t2 at *
      generalize bsOf (hex8 (cn p.l)) = t3 at *
      have s0 : (⟨#[47]⟩ : ByteArray).size = 1 := rfl
      have s1 : (⟨#[58]⟩ : ByteArray).size = 1 := rfl
      have s2 : (⟨#[32]⟩ : ByteArray).size = 1 := rfl
      have y1 : ¬ 9223372036854775807 < t1.size + 1 := by omega
      have y2 : ¬ 9223372036854775807 < t1.size + 1 + t2.size := by omega
      have y3 : ¬ 9223372036854775807 < t1.size + 1 + t2.size + 1 := by omega
      have y4 : ¬ 9223372036854775807 < t1.size + 1 + t2.size + 1 + 8 := by omega
      have y5 : ¬ 9223372036854775807 < T.size + (t1.size + 1 + t2.size + 1 + 8) := by omega
      have y6 : ¬ 9223372036854775807 < T.size + 1 + (t1.size + 1 + t2.size + 1 + 8) := by omega
      have y7 : ¬ 9223372036854775807 < T.size + 1 := by omega
      have i0 : (k : Int) < n := by omega
      by_cases hk0 : k = 0
      · have hki : ¬ (0 < (k : Int)) := by omega
        have HJ := Lib.hid (HJ0.out hk0)
        clear HJ0 HJ1 hk0 z0 z1 z2
        go_wp2
        go_region_held3 (fun w' => w'.cell? ⟨b, off + k * 3, none⟩ = some (.int .i16 x) ∧ w'.cell? ⟨b, off + k * 3 + 1, none⟩ = some (.int .i16 y) ∧ w'.cell? ⟨b, off + k * 3 + 2, none⟩ = some (.float .f32 p.l) ∧ Hid (Below w.heap.size w w'))
          (first
            | exact ⟨c0, c1, c2, Lib.hid (b_drew hB.out)⟩
            | assumption)
          (first
            | (go_at_call 105; (first | with_reducible refine (La.out _).mono ?_ | with_reducible refine (Lb.out _).mono ?_); rintro e w' ⟨rfl, b⟩; have C := rgY_step (by assumption) b; clear b)
            | (go_at_call 55; refine (Lh.out _).mono ?_; rintro e w' ⟨rfl, b⟩; have C := rgY_step (by assumption) b; clear b))
        have HF := Lib.hid (show Below w.heap.size w _ from C.2.2.2.out)
        clear C c0 c1 c2
        go_wp2
        exact ⟨⟨k + 1, by go_num, by omega, Lib.hid (congrArg Value.string HJ.out), HF⟩, by simp [intOf]; omega⟩
      · have hki : 0 < (k : Int) := by omega
        have HJ := Lib.hid (HJ1.out (by omega))
        clear HJ0 HJ1 hk0 z0 z1 z2
        go_wp2
        go_region_held3 (fun w' => w'.cell? ⟨b, off + k * 3, none⟩ = some (.int .i16 x) ∧ w'.cell? ⟨b, off + k * 3 + 1, none⟩ = some (.int .i16 y) ∧ w'.cell? ⟨b, off + k * 3 + 2, none⟩ = some (.float .f32 p.l) ∧ Hid (Below w.heap.size w w'))
          (first
            | exact ⟨c0, c1, c2, Lib.hid (b_drew hB.out)⟩
            | assumption)
          (first
            | (go_at_call 105; (first | with_reducible refine (La.out _).mono ?_ | with_reducible refine (Lb.out _).mono ?_); rintro e w' ⟨rfl, b⟩; have C := rgY_step (by assumption) b; clear b)
            | (go_at_call 55; refine (Lh.out _).mono ?_; rintro e w' ⟨rfl, b⟩; have C := rgY_step (by assumption) b; clear b))
        have HF := Lib.hid (show Below w.heap.size w _ from C.2.2.2.out)
        clear C c0 c1 c2
        go_wp2
        exact ⟨⟨k + 1, by go_num, by omega, Lib.hid (congrArg Value.string HJ.out), HF⟩, by simp [intOf]; omega⟩
    · obtain rfl : k = n := by omega
      have e1 : (txR ps).take k = txR ps := List.take_of_length_le (by rw [txR_len, Hl.out]; exact Nat.le_refl _)
      rw [e1] at hv
      subst hv
      clear e1
      go_wp2
      go_ret
      exact ⟨rfl, hB.out⟩
theorem specTrainText_any (A : Option Addr) (n c : Nat) (ps : List Px) (w : World) (hl : ps.length = n) (hn : n ≤ 1048576) (hw : ∀ p ∈ ps, p.wf) (hT : Px.L w w.heap.size A ps) : Calls Tryd.prog 21 #[.slice A n c] w (RV (.string (bsOf (textR ps))) w) := by
  have LV := Lib.hid (l01Ok_any A n c ps w hl hn hT hw)
  have E0 := Lib.hid (fun h => show textR ps = [] by unfold textR; rw [show okTr ps = false from h]; rfl)
  have E1 := Lib.hid (fun h => show textR ps = Lib.join (txR ps) [32] by unfold textR; rw [show okTr ps = true from h]; rfl)
  have LT := Lib.hid (fun h => l01Text_any A n c ps w hl h hw hT)
  clear hT hl hw
  go_enter Tryd.func21, Tryd.ntmps21
  go_wp2_with fail
  refine LV.out.mono ?_
  rintro e w1 ⟨rfl, rfl⟩
  clear LV
  cases hk : okTr ps
  · have E := Lib.hid (E0.out hk)
    clear hk
    go_wp2
    go_ret
    exact ⟨by rw [E.out]; rfl, Below.refl _ _⟩
  · have E := Lib.hid (E1.out hk)
    have L := Lib.hid (LT.out hk)
    clear hk LT
    go_wp2_with fail
    refine L.out.mono ?_
    rintro e w2 ⟨rfl, b2⟩
    have B2 := Lib.hid b2
    clear b2
    go_wp2
    go_ret
    exact ⟨by rw [E.out]; rfl, B2.out⟩
theorem walk_FnExactTrainText (A : Option Addr) (n c : Nat) (ps : List Px) (w : World) (h : Px.In w A n c ps) (hB : TbAt w) :
    Calls Tryd.prog 5 #[.slice A n c] w fun e w' => e = .returned (.bool true) ∧ Below w.heap.size w w' := by
  obtain ⟨hl, hnc, hc, hT, hw⟩ := h
  have hnm : n ≤ maxLen := Nat.le_trans hnc hc
  have Hl := Lib.hid hl; clear hl
  have HT := Lib.hid hT; clear hT
  have Hw := Lib.hid hw; clear hw
  have HB := Lib.hid hB; clear hB
  by_cases hn : 1048576 < n
  · go_enter Tryd.func5, Tryd.ntmps5
    go_wp2_with (go_at_call 20; refine (szTrain_any _ _ _ _ hnm).mono ?_; rintro e w1 ⟨rfl, rfl⟩; rw [if_pos hn])
    go_ret
    exact ⟨rfl, Below.refl _ _⟩
  · have hn' : n ≤ 1048576 := by omega
    have L1 := Lib.hid (fun A c W h => specTrainText_any A n c ps W Hl.out hn' Hw.out h)
    have L2 := Lib.hid (fun A c W h h2 => implTrainText_any A n c ps W Hl.out hn' Hw.out h h2)
    generalize bsOf (textR ps) = T at *
    go_enter Tryd.func5, Tryd.ntmps5
    go_wp2_with (go_at_call 20; refine (szTrain_any _ _ _ _ hnm).mono ?_; rintro e w1 ⟨rfl, rfl⟩; rw [if_neg hn])
    refine (toTrain_any A n c ps _ Hl.out hn' HT.out).mono ?_
    rintro e w1 ⟨rfl, m1⟩
    have M1 := Lib.hid m1; have B1 := Lib.hid m1.below; clear m1
    go_wp2_with fail
    refine (L1.out _ _ _ M1.out.tr).mono ?_
    rintro e w2 ⟨rfl, b2⟩
    have B2 := Lib.hid (b_then B1.out b2); clear b2
    go_wp2_with fail
    refine (toTrain_any A n c ps _ Hl.out hn' (HT.out.keep B2.out)).mono ?_
    rintro e w3 ⟨rfl, m3⟩
    have M3 := Lib.hid m3; have B3 := Lib.hid (b_then B2.out m3.below); clear m3
    go_wp2_with fail
    refine (L2.out _ _ _ M3.out.tr (HB.out.below B3.out)).mono ?_
    rintro e w4 ⟨rfl, b4⟩
    have X4 := Lib.hid (M3.out.tr.keep b4)
    have B4 := Lib.hid (b_then B3.out b4); clear b4
    go_wp2_with fail
    refine (toTrain_any A n c ps _ Hl.out hn' (HT.out.keep B4.out)).mono ?_
    rintro e w5 ⟨rfl, m5⟩
    have M5 := Lib.hid m5; have B5 := Lib.hid (b_then B4.out m5.below); clear m5
    go_wp2_with fail
    refine (eqTrain_same _ _ _ _ _ ps _ Hl.out hn' (X4.out.keep M5.out.below) M5.out.tr).mono ?_
    rintro e w6 ⟨rfl, b6⟩
    have B6 := Lib.hid (b_then B5.out b6)
    go_wp2
    go_ret
    exact ⟨rfl, B6.out⟩
end Go.Proofs.YtkkcihgnpephiaaDoor
