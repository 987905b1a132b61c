/-
  Plain numbers, numbers of different signs, 'all' over plain numbers.
-/
import Derived.Test.YtaodpopghacmaaaDoorFlIn2
import Derived.Deep.DeepCutAuto
namespace Go.Proofs.YtaodpopghacmaaaDoor
open Go.RowKit Go.ChangeShapes Go.WideShapes Go.Deep
attribute [local go_sem ↓] Go.wp_at_zero Go.wp_at_succ
set_option linter.unusedVariables false
set_option linter.unusedSimpArgs false
set_option maxRecDepth 100000
def apB (x y : Nat) : Bool := (oLt x 0 && oGt y 0) || (oGt x 0 && oLt y 0)
def akB (x y : Nat) : Bool := (oLt x 0 && oLt y 0) || (oGt x 0 && oGt y 0)
theorem apB_cn {x y x' y' : Nat} (hx : cn x = cn x') (hy : cn y = cn y') : apB x y = apB x' y' := by
  unfold apB
  rw [oLt_cn hx (rfl : cn 0 = cn 0), oGt_cn hy (rfl : cn 0 = cn 0), oGt_cn hx (rfl : cn 0 = cn 0), oLt_cn hy (rfl : cn 0 = cn 0)]
theorem akB_cn {x y x' y' : Nat} (hx : cn x = cn x') (hy : cn y = cn y') : akB x y = akB x' y' := by
  unfold akB
  rw [oLt_cn hx (rfl : cn 0 = cn 0), oGt_cn hy (rfl : cn 0 = cn 0), oGt_cn hx (rfl : cn 0 = cn 0), oLt_cn hy (rfl : cn 0 = cn 0)]
theorem plB_cn {x x' : Nat} (hx : cn x = cn x') : plB x = plB x' := by
  unfold plB
  rw [oGe_cn hx rfl, oLe_cn hx rfl]
theorem isPlain_any (m : Nat) (w : World) : Calls Tryd.prog 25 #[.float .f32 m] w fun e w' => e = .returned (.bool (plB m)) ∧ w = w' := by
  unfold plB oGe oLe
  go_enter Tryd.func25, Tryd.ntmps25
  go_wp2
  · go_ret
    exact ⟨rfl, rfl⟩
  · rename_i h
    go_ret
    refine ⟨?_, rfl⟩
    simp at h
    simp [h]
theorem l01Plain_any (m : Nat) (w : World) : Calls Tryd.prog 27 #[.float .f32 m] w fun e w' => e = .returned (.bool (plB m)) ∧ w = w' := by
  unfold plB oGe oLe
  go_enter Tryd.func27, Tryd.ntmps27
  go_wp2
  · go_ret
    exact ⟨rfl, rfl⟩
  · rename_i h
    go_ret
    refine ⟨?_, rfl⟩
    simp at h
    simp [h]
theorem opposed_any (x y : Nat) (w : World) : Calls Tryd.prog 26 #[.float .f32 x, .float .f32 y] w fun e w' => e = .returned (.bool (apB x y)) ∧ w = w' := by
  unfold apB
  obtain ⟨a, ha⟩ : ∃ a, oLt x 0 = a := ⟨_, rfl⟩
  obtain ⟨b, hb⟩ : ∃ a, oGt x 0 = a := ⟨_, rfl⟩
  obtain ⟨c, hc⟩ : ∃ a, oLt y 0 = a := ⟨_, rfl⟩
  obtain ⟨d, hd⟩ : ∃ a, oGt y 0 = a := ⟨_, rfl⟩
  rw [ha, hb, hc, hd]
  unfold oLt at ha hc
  unfold oGt at hb hd
  cases a <;> cases b <;> cases c <;> cases d
  all_goals
    go_enter Tryd.func26, Tryd.ntmps26
    go_wp2
    all_goals
      go_ret
      refine ⟨?_, rfl⟩
      simp_all
theorem l07Apart_any (x y : Nat) (w : World) : Calls Tryd.prog 28 #[.float .f32 x, .float .f32 y] w fun e w' => e = .returned (.bool (apB x y)) ∧ w = w' := by
  unfold apB
  obtain ⟨a, ha⟩ : ∃ a, oLt x 0 = a := ⟨_, rfl⟩
  obtain ⟨b, hb⟩ : ∃ a, oGt x 0 = a := ⟨_, rfl⟩
  obtain ⟨c, hc⟩ : ∃ a, oLt y 0 = a := ⟨_, rfl⟩
  obtain ⟨d, hd⟩ : ∃ a, oGt y 0 = a := ⟨_, rfl⟩
  rw [ha, hb, hc, hd]
  unfold oLt at ha hc
  unfold oGt at hb hd
  cases a <;> cases b <;> cases c <;> cases d
  all_goals
    go_enter Tryd.func28, Tryd.ntmps28
    go_wp2
    all_goals
      go_ret
      refine ⟨?_, rfl⟩
      simp_all
theorem alike_any (x y : Nat) (w : World) : Calls Tryd.prog 32 #[.float .f32 x, .float .f32 y] w fun e w' => e = .returned (.bool (akB x y)) ∧ w = w' := by
  unfold akB
  obtain ⟨a, ha⟩ : ∃ a, oLt x 0 = a := ⟨_, rfl⟩
  obtain ⟨b, hb⟩ : ∃ a, oGt x 0 = a := ⟨_, rfl⟩
  obtain ⟨c, hc⟩ : ∃ a, oLt y 0 = a := ⟨_, rfl⟩
  obtain ⟨d, hd⟩ : ∃ a, oGt y 0 = a := ⟨_, rfl⟩
  rw [ha, hb, hc, hd]
  unfold oLt at ha hc
  unfold oGt at hb hd
  cases a <;> cases b <;> cases c <;> cases d
  all_goals
    go_enter Tryd.func32, Tryd.ntmps32
    go_wp2
    all_goals
      go_ret
      refine ⟨?_, rfl⟩
      simp_all
set_option maxHeartbeats 1000000 in
theorem allPlain_any (A : Option Addr) (n c : Nat) (fs : List Nat) (w : World) (hl : fs.length = n) (hn : n ≤ maxLen) {B0 : Nat} (hT : Fo w B0 A fs) :
    Calls Tryd.prog 24 #[.func (.func 25) #[] #[], .slice A n c] w fun e w' => e = .returned (.bool (fs.all plB)) ∧ w = w' := by
  unfold maxLen at hn
  have Hl := Lib.hid hl; clear hl
  have HT := Lib.hid hT; clear hT
  go_enter Tryd.func24, Tryd.ntmps24
  go_wp2
  go_loop [9] (fun i => ∃ k : Nat, k ≤ n ∧ i = .int .i64 k ∧ Hid ((fs.take k).all plB = true)) (fun i => n - (intOf i).toNat)
  case atStart => exact ⟨0, Nat.zero_le _, rfl, (by show _ = _; simp)⟩
  case round =>
    obtain ⟨k, hk, rfl, hp⟩ := hrel
    by_cases hlt : k < n
    · have hkl : k < fs.length := by have := Hl.out; omega
      obtain ⟨b, off, rfl, hbs, hc⟩ := HT.out (by omega)
      obtain ⟨f, hf⟩ : ∃ f, fs[k]? = some f := ⟨_, List.getElem?_eq_getElem hkl⟩
      have c0 := hc k f hf
      have hs : Hid ((fs.take (k + 1)).all plB = ((fs.take k).all plB && plB f)) := by
        show _ = _
        rw [List.take_add_one, hf, List.all_append]
        simp
      have hd : Hid (plB f = false → fs.all plB = false) := fun h => List.all_eq_false.2 ⟨f, List.mem_of_getElem? hf, by simp [h]⟩
      clear hc hkl hf
      rcases Bool.eq_false_or_eq_true (plB f) with hr | hr
      · have hs2 : Hid ((fs.take (k + 1)).all plB = true) := by show _ = _; rw [hs.out, hp.out, hr]; rfl
        clear hs hp hd
        go_wp2_with (go_at_call 25; refine (isPlain_any _ _).mono ?_; rintro e w1 ⟨rfl, rfl⟩)
        go_round
        case rel => exact ⟨k + 1, by omega, by go_num, hs2⟩
        case measure => simp [intOf]; omega
      · have hd2 := Lib.hid (hd.out hr)
        clear hs hp hd
        go_wp2_with (go_at_call 25; refine (isPlain_any _ _).mono ?_; rintro e w1 ⟨rfl, rfl⟩)
        go_ret
        exact ⟨by rw [hd2.out]; rfl, rfl⟩
    · obtain rfl : k = n := by omega
      go_wp2
      go_ret
      refine ⟨?_, rfl⟩
      have := hp.out
      rw [List.take_of_length_le (by have := Hl.out; omega)] at this
      rw [this]
      rfl
theorem allPlain_is {t : Bool} {A : Option Addr} {n c : Nat} {fs : List Nat} {w : World} (ht : fs.all plB = t) (hl : fs.length = n) (hn : n ≤ maxLen) {B0 : Nat} (hT : Fo w B0 A fs) :
    Calls Tryd.prog 24 #[.func (.func 25) #[] #[], .slice A n c] w fun e w' => e = .returned (.bool t) ∧ w = w' := by
  subst ht
  exact allPlain_any A n c fs w hl hn hT
end Go.Proofs.YtaodpopghacmaaaDoor
