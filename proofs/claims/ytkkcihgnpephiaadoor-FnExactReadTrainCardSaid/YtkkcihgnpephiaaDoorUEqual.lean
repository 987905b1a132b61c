/-
  How the laws compare numbers and pairs: what is the same compares as the same.
-/
import Derived.Test.YtkkcihgnpephiaaDoorUPairs
import Derived.Laws.FloatArith
namespace Go.Proofs.YtkkcihgnpephiaaDoor
open Go.RowKit Go.ChangeShapes Go.WideShapes Go.Deep
set_option linter.unusedVariables false
theorem sameFloat_eq (x : Nat) (w : World) (hx : (FloatKind.f64.decode x).isNaN = false) :
    Calls Tryd.prog 19 #[.float .f64 x, .float .f64 x] w fun e w' => e = .returned (.bool true) ∧ w = w' := by
  have h1 := order_self hx
  cases h0 : (FloatKind.f64.format.order x 0 == some .eq)
  · go_enter Tryd.func19, Tryd.ntmps19
    go_wp2
    go_ret
    exact ⟨rfl, rfl⟩
  · have h2 : FloatKind.f64.format.order x 0 = some .eq := by simpa using h0
    obtain ⟨r, hr⟩ := quo_zero h2
    have hq := fun w => run_float_arith (P := Tryd.prog) w .quo 28 .f64 4607182418800017408 x r hr
    clear hr h0
    go_enter Tryd.func19, Tryd.ntmps19
    go_wp2
    go_ret
    exact ⟨rfl, rfl⟩
theorem sameFloat_nan (x y : Nat) (w : World) (hx : (FloatKind.f64.decode x).isNaN = true) (hy : (FloatKind.f64.decode y).isNaN = true) :
    Calls Tryd.prog 19 #[.float .f64 x, .float .f64 y] w fun e w' => e = .returned (.bool true) ∧ w = w' := by
  have h1 := order_nan_left x hx
  have h2 := order_nan_left y hy
  go_enter Tryd.func19, Tryd.ntmps19
  go_wp2
  all_goals
    go_ret
    exact ⟨rfl, rfl⟩
set_option maxRecDepth 100000 in
theorem eqPair_same (p : Px) (w : World) :
    Calls Tryd.prog 68 #[.agg #[.int .i16 p.a, .int .i16 p.b, .float .f32 p.l], .agg #[.int .i16 p.a, .int .i16 p.b, .float .f32 p.l]] w fun e w' => e = .returned (.bool true) ∧ Below w.heap.size w w' := by
  cases h : (FloatKind.f32.decode p.l).isNaN
  · have h2 := fun w => run_wide (P := Tryd.prog) w 22 28 p.l (by rw [Tryd.underlying22]; rfl) Tryd.underlying28 h
    have h3 := (wide_some h).2
    go_enter Tryd.func68, Tryd.ntmps68
    go_wp2_with (go_at_call 19; refine (sameFloat_eq _ _ h3).mono ?_; rintro e w' ⟨rfl, rfl⟩)
    go_ret
    refine ⟨rfl, ?_⟩
    exact ((Below.refl _ _).alloc (Nat.le_refl _) _).alloc (by simp) _
  · have h2 := fun w => run_nan_wide (P := Tryd.prog) w 22 28 p.l (by rw [Tryd.underlying22]; rfl) Tryd.underlying28 h
    have h3 := fun w => nanTo_nan w p.l
    go_enter Tryd.func68, Tryd.ntmps68
    go_wp2_with (go_at_call 19; refine (sameFloat_nan _ _ _ (h3 _) (h3 _)).mono ?_; rintro e w' ⟨rfl, rfl⟩)
    go_ret
    refine ⟨rfl, ?_⟩
    exact (((Below.refl _ _).alloc (Nat.le_refl _) _).alloc (by simp) _).drew.drew
set_option maxRecDepth 100000 in
theorem eqTrain_same (A A' : Option Addr) (n c c' : Nat) (ps : List Px) (w : World) (hl : ps.length = n) (hn : n ≤ 1048576) (hT : Px.L w w.heap.size A ps) (hT' : Px.L w w.heap.size A' ps) :
    Calls Tryd.prog 24 #[.slice A n c, .slice A' n c'] w fun e w' => e = .returned (.bool true) ∧ Below w.heap.size w w' := by
  have Hl := Lib.hid hl; clear hl
  have HT := Lib.hid hT; clear hT
  have HT' := Lib.hid hT'; clear hT'
  go_enter Tryd.func24, Tryd.ntmps24
  go_wp2
  go_loopw [5] (fun i wr => ∃ k : Nat, k ≤ n ∧ i = .int .i64 k ∧ Below w.heap.size w wr) (fun i _ => n - (intOf i).toNat)
  case atStart => exact ⟨0, Nat.zero_le _, rfl, Below.refl _ _⟩
  case round =>
    obtain ⟨k, hk, rfl, hb⟩ := hrel
    have Hb := Lib.hid hb; clear hb
    by_cases hlt : k < n
    · have hkl : k < ps.length := by have := Hl.out; omega
      obtain ⟨b, off, rfl, hbs, hc⟩ := HT.out (by omega)
      obtain ⟨b', off', rfl, hbs', hc'⟩ := HT'.out (by omega)
      obtain ⟨p, hp⟩ : ∃ p, ps[k]? = some p := ⟨_, List.getElem?_eq_getElem hkl⟩
      obtain ⟨c0, c1, c2⟩ := cells3 (rangeAt_of_block (hc k p hp) (Hb.out.block b hbs))
      obtain ⟨d0, d1, d2⟩ := cells3 (rangeAt_of_block (hc' k p hp) (Hb.out.block b' hbs'))
      clear hc hc' hkl hp
      go_wp2_with fail
      go_still_tail 8, (by kernel_rfl)
      change wpList _ _ _ _ _ wr.drew
      clear c0 c1 c2 d0 d1 d2
      go_wp2_with (go_at_call 68; refine (eqPair_same p _).mono ?_; rintro e w' ⟨rfl, hb2⟩)
      have Hb2 : Below w.heap.size w w' := (Hb.out.drew).trans (hb2.mono Hb.out.size)
      go_roundw
      case rel => exact ⟨k + 1, by omega, by go_num, Hb2⟩
      case measure => simp [intOf]; omega
    · have hkn : k = n := by omega
      subst hkn
      go_wp2
      go_ret
      exact ⟨rfl, Hb.out⟩
end Go.Proofs.YtkkcihgnpephiaaDoor
