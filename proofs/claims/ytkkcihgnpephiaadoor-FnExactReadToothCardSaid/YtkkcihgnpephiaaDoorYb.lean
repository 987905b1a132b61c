/-
  Valid teeth, the wear of the side that is used: the program's functions and the model's.
-/
import Derived.Test.YtkkcihgnpephiaaDoorYa
import Derived.Test.YtkkcihgnpephiaaDoorAp
import Derived.Test.YtkkcihgnpephiaaDoorMc
import Derived.Deep.DeepCutAuto
namespace Go.Proofs.YtkkcihgnpephiaaDoor
open Go.RowKit Go.ChangeShapes Go.WideShapes Go.Deep
attribute [local go_sem ↓] Go.wp_at_zero Go.wp_at_succ
set_option linter.unusedVariables false
set_option linter.unusedSimpArgs false
set_option maxRecDepth 100000

def sidB (s : Int) : Bool := decide (0 ≤ s) && decide (s ≤ 1)
def hardB (x : Nat) : Bool := oGe x 1065353216 && oLe x 1199570944
def okT (X : Th) : Bool := hardB X.h && (partB X.u && partB X.v && sidB X.s)
theorem fo_side {w : World} {q : Nat} {X : Th} (h : AtTh w q X) {t : Bool} (ht : (partB X.u && partB X.v) = t) : Fo w (q + 1) (some ⟨q, 1, none⟩) [X.u, X.v] ∧ [X.u, X.v].all partB = t := by
  obtain ⟨_, c1, c2, _⟩ := h.cells
  refine ⟨fun _ => ⟨q, 1, rfl, Nat.lt_succ_self q, fun i f hf => ?_⟩, by rw [← ht]; simp⟩
  match i, hf with
  | 0, hf => simp at hf; subst hf; exact c1
  | 1, hf => simp at hf; subst hf; exact c2
theorem sid_cases {s : Int} {t : Bool} (h : sidB s = t) : (t = true → s = 0 ∨ s = 1) ∧ (t = false → ¬ s = 0 ∧ ¬ s = 1) := by
  unfold sidB at h
  subst h
  constructor
  · intro h; simp at h; omega
  · intro h; simp at h; omega
theorem sid_eq (s : Int) : (s == 0 || s == 1) = sidB s := by
  unfold sidB
  rw [Bool.eq_iff_iff]
  simp
  omega
theorem validTooth_any (X : Th) (w : World) : Calls Tryd.prog 89 #[.agg #[.float .f32 X.h, .float .f32 X.u, .float .f32 X.v, .int .i8 X.s]] w (RV (.bool (okT X)) w) := by
  have h0 := AtTh.new w X
  have hsz : w.heap.size < (w.alloc (.cells #[.float .f32 X.h, .float .f32 X.u, .float .f32 X.v, .int .i8 X.s] 72)).heap.size := by simp
  obtain ⟨t, ht⟩ : ∃ t, (partB X.u && partB X.v) = t := ⟨_, rfl⟩
  obtain ⟨hF, hA⟩ := fo_side h0 ht
  have hall := Lib.hid (allPart_is (n := 2) (c := 2) hA rfl (by unfold maxLen; omega) hF)
  clear hF hA h0 hsz
  unfold okT hardB
  rw [ht]
  clear ht
  rcases Bool.eq_false_or_eq_true (oGe X.h 1065353216) with h1 | h1
  · rcases Bool.eq_false_or_eq_true (oLe X.h 1199570944) with h2 | h2
    · cases t
      · simp only [h1, h2, Bool.true_and, Bool.false_and]
        unfold oGe oLe at *
        go_enter Tryd.func89, Tryd.ntmps89
        go_wp2_with (go_at_call 117; refine hall.out.mono ?_; rintro e w1 ⟨rfl, rfl⟩)
        go_ret
        refine ⟨rfl, ?_⟩
        (repeat (first | exact Below.refl _ _ | refine b_drewN ?_ _ | refine b_drew ?_ | refine b_alloc ?_ _ | refine b_then ?_ (by assumption)))
      · simp only [h1, h2, Bool.true_and]
        unfold oGe oLe at *
        go_enter Tryd.func89, Tryd.ntmps89
        go_wp2_with (go_at_call 117; refine hall.out.mono ?_; rintro e w1 ⟨rfl, rfl⟩)
        all_goals
          go_ret
          refine ⟨by rw [← sid_eq]; simp_all, ?_⟩
          (repeat (first | exact Below.refl _ _ | refine b_drewN ?_ _ | refine b_drew ?_ | refine b_alloc ?_ _ | refine b_then ?_ (by assumption)))
    · simp only [h1, h2, Bool.true_and, Bool.false_and]
      unfold oGe oLe at *
      go_enter Tryd.func89, Tryd.ntmps89
      go_wp2
      go_ret
      refine ⟨rfl, ?_⟩
      (repeat (first | exact Below.refl _ _ | refine b_drewN ?_ _ | refine b_drew ?_ | refine b_alloc ?_ _ | refine b_then ?_ (by assumption)))
  · simp only [h1, Bool.true_and, Bool.false_and]
    unfold oGe at *
    go_enter Tryd.func89, Tryd.ntmps89
    go_wp2
    go_ret
    refine ⟨rfl, ?_⟩
    (repeat (first | exact Below.refl _ _ | refine b_drewN ?_ _ | refine b_drew ?_ | refine b_alloc ?_ _ | refine b_then ?_ (by assumption)))
theorem validTooth_is {X : Th} {t : Bool} (h : okT X = t) (w : World) : Calls Tryd.prog 89 #[.agg #[.float .f32 X.h, .float .f32 X.u, .float .f32 X.v, .int .i8 X.s]] w (RV (.bool t) w) := by
  subst h
  exact validTooth_any X w
theorem l00InY_is {x lo hi : Int} {t : Bool} (h : (decide (lo ≤ x) && decide (x ≤ hi)) = t) (w : World) : Calls Tryd.prog 103 #[.int .i64 x, .int .i64 lo, .int .i64 hi] w fun e w' => e = .returned (.bool t) ∧ w = w' := by
  subst h
  by_cases h1 : lo ≤ x <;> by_cases h2 : x ≤ hi <;> simp only [h1, h2, decide_true, decide_false, Bool.and_self, Bool.and_true, Bool.and_false, Bool.true_and, Bool.false_and]
  all_goals
    go_enter Tryd.func103, Tryd.ntmps103
    go_wp2
    go_ret
    exact ⟨rfl, rfl⟩
theorem i8_64 (s : Int) (h1 : -128 ≤ s) (h2 : s ≤ 127) : IntKind.i64.wrap s = s := IntWalk.i64_in _ (by omega)
theorem l06Ok_any (X : Th) (wX : (Lit.int .i8 X.s).wf = true) (w : World) : Calls Tryd.prog 86 #[.agg #[.float .f32 X.h, .float .f32 X.u, .float .f32 X.v, .int .i8 X.s]] w (RV (.bool (okT X)) w) := by
  have hb := bounds_i8 wX
  have hk := i8_64 X.s hb.1 hb.2
  have hin := Lib.hid (fun w => l00InY_is (x := X.s) (lo := 0) (hi := 1) (t := sidB X.s) rfl w)
  obtain ⟨t1, ht1⟩ : ∃ t, partB X.u = t := ⟨_, rfl⟩
  obtain ⟨t2, ht2⟩ : ∃ t, partB X.v = t := ⟨_, rfl⟩
  have p1 := Lib.hid (fun w => l01Part_any X.u w)
  have p2 := Lib.hid (fun w => l01Part_any X.v w)
  unfold okT hardB
  rw [ht1] at p1 ⊢
  rw [ht2] at p2 ⊢
  clear ht1 ht2 hb wX
  rcases Bool.eq_false_or_eq_true (oGe X.h 1065353216) with h1 | h1
  · rcases Bool.eq_false_or_eq_true (oLe X.h 1199570944) with h2 | h2
    · cases t1 <;> cases t2
      all_goals
        simp only [h1, h2, Bool.true_and, Bool.false_and, Bool.and_true, Bool.and_false]
        unfold oGe oLe at *
        go_enter Tryd.func86, Tryd.ntmps86
        go_wp2_with (first | (go_at_call_of 104 (Value.float .f32 X.u); refine (p1.out _).mono ?_; rintro e w1 ⟨rfl, rfl⟩) | (go_at_call_of 104 (Value.float .f32 X.v); refine (p2.out _).mono ?_; rintro e w1 ⟨rfl, rfl⟩) | (go_at_call 103; refine (hin.out _).mono ?_; rintro e w1 ⟨rfl, rfl⟩))
        go_ret
        refine ⟨rfl, ?_⟩
        (repeat (first | exact Below.refl _ _ | refine b_drewN ?_ _ | refine b_drew ?_ | refine b_alloc ?_ _ | refine b_then ?_ (by assumption)))
    · simp only [h1, h2, Bool.true_and, Bool.false_and]
      unfold oGe oLe at *
      go_enter Tryd.func86, Tryd.ntmps86
      go_wp2
      go_ret
      refine ⟨rfl, ?_⟩
      (repeat (first | exact Below.refl _ _ | refine b_drewN ?_ _ | refine b_drew ?_ | refine b_alloc ?_ _ | refine b_then ?_ (by assumption)))
  · simp only [h1, Bool.true_and, Bool.false_and]
    unfold oGe at *
    go_enter Tryd.func86, Tryd.ntmps86
    go_wp2
    go_ret
    refine ⟨rfl, ?_⟩
    (repeat (first | exact Below.refl _ _ | refine b_drewN ?_ _ | refine b_drew ?_ | refine b_alloc ?_ _ | refine b_then ?_ (by assumption)))
theorem l06Ok_is {X : Th} {t : Bool} (h : okT X = t) (wX : (Lit.int .i8 X.s).wf = true) (w : World) : Calls Tryd.prog 86 #[.agg #[.float .f32 X.h, .float .f32 X.u, .float .f32 X.v, .int .i8 X.s]] w (RV (.bool t) w) := by
  subst h
  exact l06Ok_any X wX w
end Go.Proofs.YtkkcihgnpephiaaDoor
