/-
  When a belt is valid: the program's function and the model's.
-/
import Derived.Test.YtkkcihgnpephiaaDoorOps
namespace Go.Proofs.YtkkcihgnpephiaaDoor
open Go.RowKit Go.ChangeShapes Go.WideShapes Go.Deep
set_option linter.unusedVariables false
set_option linter.unusedSimpArgs false
theorem isRadius_any (m : Nat) (w : World) : Calls Tryd.prog 110 #[.float .f32 m] w fun e w' => e = .returned (.bool (radB m)) ∧ w = w' := by
  unfold radB oGe oLe
  go_enter Tryd.func110, Tryd.ntmps110
  go_wp2
  · go_ret
    exact ⟨rfl, rfl⟩
  · rename_i h
    go_ret
    refine ⟨?_, rfl⟩
    simp at h
    simp [h]
theorem l02Radius_any (m : Nat) (w : World) : Calls Tryd.prog 109 #[.float .f32 m] w fun e w' => e = .returned (.bool (radB m)) ∧ w = w' := by
  unfold radB oGe oLe
  go_enter Tryd.func109, Tryd.ntmps109
  go_wp2
  · go_ret
    exact ⟨rfl, rfl⟩
  · rename_i h
    go_ret
    refine ⟨?_, rfl⟩
    simp at h
    simp [h]
theorem order_r {a r c : Nat} (h : CN r c) : FloatKind.f32.format.order a r = FloatKind.f32.format.order a c := by
  unfold CN at h
  rw [← order_cn a r, h, ← order_cn a c, ← h, cn_cn]
theorem order_l {a r c : Nat} (h : CN r c) : FloatKind.f32.format.order r a = FloatKind.f32.format.order c a := by
  unfold CN at h
  rw [← order_cn r a, h, ← order_cn c a, ← h, cn_cn]
theorem validBelt_any (B : Bl) (w : World) : Calls Tryd.prog 76 #[.agg #[.float .f32 B.a, .float .f32 B.b, .float .f32 B.ap, .float .f32 B.g, .bool B.x]] w (RV (.bool (okB B)) w) := by
  obtain ⟨R, N, hR, hC⟩ := ops_fun Tryd.prog 22
  have ra := hR .add rfl
  have ho : ∀ w, FloatKind.f32.format.order B.ap (R .add B.a B.b w) = FloatKind.f32.format.order B.ap (sumC B) := fun w => order_r (hC .add rfl B.a B.b w)
  clear hC hR
  go_enter Tryd.func76, Tryd.ntmps76
  go_wp2_with (go_at_call 110; refine (isRadius_any _ _).mono ?_; rintro e w1 ⟨rfl, rfl⟩)
  all_goals
    go_ret
    refine ⟨by simp_all [okB, fitB, oGe, oLe, Bool.and_assoc], ?_⟩
    (repeat (first | exact Below.refl _ _ | refine b_drewN ?_ _ | refine b_drew ?_ | refine b_alloc ?_ _ | refine b_then ?_ (by assumption)))
theorem l02Radius_is {m : Nat} {b : Bool} (h : radB m = b) (w : World) : Calls Tryd.prog 109 #[.float .f32 m] w fun e w' => e = .returned (.bool b) ∧ w' = w :=
  (l02Radius_any m w).mono fun e w' x => ⟨by rw [x.1, h], x.2.symm⟩
/-- What lies between two numbers is a number. -/
theorem num_of {x lo hi : Nat} (hl : nan32 lo = false ∧ (FloatKind.f32.decode lo).isInfinity = false) (hh : nan32 hi = false ∧ (FloatKind.f32.decode hi).isInfinity = false) (h1 : oGe x lo = true) (h2 : oLe x hi = true) :
    ∃ s m e, FloatKind.f32.decode x = .number s m e := by
  unfold oGe FloatKind.format Ieee.Format.order at h1
  unfold oLe FloatKind.format Ieee.Format.order at h2
  unfold nan32 at hl hh
  unfold FloatKind.decode FloatKind.format at hl hh ⊢
  simp only at h1 h2 hl hh ⊢
  cases hx : Ieee.single.read x with
  | number s m e => exact ⟨s, m, e, rfl⟩
  | nan s f => rw [hx] at h1; simp [Ieee.Datum.order] at h1
  | infinity s =>
    rw [hx] at h1 h2
    cases hlo : Ieee.single.read lo with
    | nan _ _ => rw [hlo] at hl; simp [Ieee.Datum.isNaN] at hl
    | infinity _ => rw [hlo] at hl; simp [Ieee.Datum.isInfinity] at hl
    | number _ _ _ =>
      cases hhi : Ieee.single.read hi with
      | nan _ _ => rw [hhi] at hh; simp [Ieee.Datum.isNaN] at hh
      | infinity _ => rw [hhi] at hh; simp [Ieee.Datum.isInfinity] at hh
      | number _ _ _ =>
        rw [hlo] at h1
        rw [hhi] at h2
        cases s <;> simp [Ieee.Datum.order] at h1 h2
theorem rad_num {x : Nat} (h : radB x = true) : ∃ s m e, FloatKind.f32.decode x = .number s m e := by
  unfold radB at h
  simp only [Bool.and_eq_true] at h
  exact num_of (by decide +kernel) (by decide +kernel) h.1 h.2
theorem add_num {x y : Nat} (hx : ∃ s m e, FloatKind.f32.decode x = .number s m e) (hy : ∃ s m e, FloatKind.f32.decode y = .number s m e) : ∃ r, floatBits .add .f32 x y = some r := by
  obtain ⟨s, m, e, hx⟩ := hx
  obtain ⟨s', m', e', hy⟩ := hy
  unfold FloatKind.decode FloatKind.format at hx hy
  simp only [floatBits, FloatKind.format, Ieee.Format.add, hx, hy, Ieee.Datum.sum]
  exact ⟨_, rfl⟩
theorem f2_some {op : BinOp} {x y r : Nat} (h : floatBits op .f32 x y = some r) : f2 op (cn x) (cn y) = r := by
  rw [f2_cn]
  unfold f2
  rw [h]
  rfl
set_option maxHeartbeats 4000000 in
theorem l02Ok_any (B : Bl) (q : Nat) (w : World) (c0 : w.cell? ⟨q, 0, none⟩ = some (.float .f32 B.a)) (c1 : w.cell? ⟨q, 1, none⟩ = some (.float .f32 B.b)) (c2 : w.cell? ⟨q, 2, none⟩ = some (.float .f32 B.ap)) (c3 : w.cell? ⟨q, 3, none⟩ = some (.float .f32 B.g)) :
    Calls Tryd.prog 74 #[.pointer (some ⟨q, 0, none⟩)] w fun e w' => e = .returned (.bool (okB B)) ∧ ∃ n, w' = w.drewN n := by
  rcases Bool.eq_false_or_eq_true (radB B.a) with h1 | h1
  · rcases Bool.eq_false_or_eq_true (radB B.b) with h2 | h2
    · obtain ⟨s, hs⟩ := add_num (rad_num h1) (rad_num h2)
      have hsum : sumC B = s := f2_some hs
      have ra := fun w => run_float_arith (P := Tryd.prog) w .add 22 .f32 _ _ _ hs
      clear hs
      rcases Bool.eq_false_or_eq_true (oGe B.ap s) with h3 | h3
      · rcases Bool.eq_false_or_eq_true (oLe B.ap 1199570944) with h4 | h4
        · rcases Bool.eq_false_or_eq_true (oGe B.g 0) with h5 | h5
          · rcases Bool.eq_false_or_eq_true (oLe B.g 1073741824) with h6 | h6
            all_goals
              first
                | (have hk : okB B = true := by simp [okB, fitB, hsum, h1, h2, h3, h4, h5, h6])
                | (have hk : okB B = false := by simp [okB, fitB, hsum, h1, h2, h3, h4, h5, h6])
              rw [hk]
              clear hk hsum
              unfold oGe oLe at *
              go_enter Tryd.func74, Tryd.ntmps74
              go_wp2_with fail
              go_quiet ((go_at_call 109; exact Calls.quiet_of_same (l02Radius_is (by assumption) _)))
              go_wp2
              go_ret
              exact ⟨rfl, _, rfl⟩
          all_goals
            have hk : okB B = false := by simp [okB, fitB, hsum, h1, h2, h3, h4, h5]
            rw [hk]
            clear hk hsum
            unfold oGe oLe at *
            go_enter Tryd.func74, Tryd.ntmps74
            go_wp2_with fail
            go_quiet ((go_at_call 109; exact Calls.quiet_of_same (l02Radius_is (by assumption) _)))
            go_wp2
            go_ret
            exact ⟨rfl, _, rfl⟩
        all_goals
          have hk : okB B = false := by simp [okB, fitB, hsum, h1, h2, h3, h4]
          rw [hk]
          clear hk hsum
          unfold oGe oLe at *
          go_enter Tryd.func74, Tryd.ntmps74
          go_wp2_with fail
          go_quiet ((go_at_call 109; exact Calls.quiet_of_same (l02Radius_is (by assumption) _)))
          go_wp2
          go_ret
          exact ⟨rfl, _, rfl⟩
      all_goals
        have hk : okB B = false := by simp [okB, fitB, hsum, h1, h2, h3]
        rw [hk]
        clear hk hsum
        unfold oGe at *
        go_enter Tryd.func74, Tryd.ntmps74
        go_wp2_with fail
        go_quiet ((go_at_call 109; exact Calls.quiet_of_same (l02Radius_is (by assumption) _)))
        go_wp2
        go_ret
        exact ⟨rfl, _, rfl⟩
    all_goals
      have hk : okB B = false := by simp [okB, h1, h2]
      rw [hk]
      clear hk
      go_enter Tryd.func74, Tryd.ntmps74
      go_wp2_with fail
      go_quiet ((go_at_call 109; exact Calls.quiet_of_same (l02Radius_is (by assumption) _)))
      go_wp2
      go_ret
      exact ⟨rfl, _, rfl⟩
  all_goals
    have hk : okB B = false := by simp [okB, h1]
    rw [hk]
    clear hk
    go_enter Tryd.func74, Tryd.ntmps74
    go_wp2_with fail
    go_quiet ((go_at_call 109; exact Calls.quiet_of_same (l02Radius_is (by assumption) _)))
    go_wp2
    go_ret
    exact ⟨rfl, _, rfl⟩
end Go.Proofs.YtkkcihgnpephiaaDoor
