/-
  When a box is valid: both sides and the law.
-/
import Derived.Test.YtaodpopghacmaaaIi
namespace Go.Proofs.Ytaodpopghacmaaa
open Go.RowKit Go.ChangeShapes Go.WideShapes Go.Deep
attribute [local go_sem ↓] Go.wp_at_zero Go.wp_at_succ
set_option linter.unusedVariables false
set_option linter.unusedSimpArgs false
set_option maxRecDepth 100000
def teethB (x : Int) : Bool := decide (6 ≤ x) && decide (x ≤ 200)
/-- The wheel i has teeth, more than the one before it. -/
def okAt (zs : List Int) (i : Nat) : Prop := (6 ≤ zs.getD i 0 ∧ zs.getD i 0 ≤ 200) ∧ (0 < i → zs.getD (i - 1) 0 < zs.getD i 0)
instance (zs : List Int) (i : Nat) : Decidable (okAt zs i) := by unfold okAt; infer_instance
def okZ (zs : List Int) : Bool := decide ((2 ≤ zs.length ∧ zs.length ≤ 24) ∧ ∀ i, i < zs.length → okAt zs i)
theorem getD_of {zs : List Int} {i : Nat} {z : Int} (h : zs[i]? = some z) : zs.getD i 0 = z := by simp [List.getD, h]
theorem okZ_bad {zs : List Int} {k : Nat} (hk : k < zs.length) (h : ¬ okAt zs k) : okZ zs = false := by
  unfold okZ
  exact decide_eq_false (fun x => h (x.2 k hk))
theorem okZ_len {zs : List Int} (h : ¬ (2 ≤ zs.length ∧ zs.length ≤ 24)) : okZ zs = false := by
  unfold okZ
  exact decide_eq_false (fun x => h x.1)
theorem okZ_good {zs : List Int} (h : 2 ≤ zs.length ∧ zs.length ≤ 24) (h2 : ∀ i, i < zs.length → okAt zs i) : okZ zs = true := by
  unfold okZ
  exact decide_eq_true ⟨h, h2⟩
theorem okZ_at {zs : List Int} (h : okZ zs = true) : (2 ≤ zs.length ∧ zs.length ≤ 24) ∧ ∀ i, i < zs.length → okAt zs i := of_decide_eq_true h
theorem okZ_teeth {zs : List Int} (h : okZ zs = true) {i : Nat} {z : Int} (hz : zs[i]? = some z) : 6 ≤ z ∧ z ≤ 200 := by
  have h1 := ((okZ_at h).2 i (List.getElem?_eq_some_iff.1 hz).1).1
  rwa [getD_of hz] at h1
theorem areTeeth_any (x : Int) (w : World) : Calls Try.prog 91 #[.int .i64 x] w fun e w' => e = .returned (.bool (teethB x)) ∧ w = w' := by
  unfold teethB
  by_cases h1 : 6 ≤ x <;> by_cases h2 : x ≤ 200 <;> simp only [h1, h2, decide_true, decide_false, Bool.and_true, Bool.and_false, Bool.true_and, Bool.false_and]
  all_goals
    go_enter Try.func91, Try.ntmps91
    go_wp2
    all_goals
      go_ret
      first | exact ⟨rfl, rfl⟩ | (simp; omega)
theorem areTeeth_is {x : Int} {t : Bool} (h : teethB x = t) (w : World) : Calls Try.prog 91 #[.int .i64 x] w fun e w' => e = .returned (.bool t) ∧ w = w' := by
  subst h
  exact areTeeth_any x w
theorem l01Teeth_any (x : Int) (w : World) : Calls Try.prog 89 #[.int .i64 x] w fun e w' => e = .returned (.bool (teethB x)) ∧ w = w' := by
  unfold teethB
  by_cases h1 : 6 ≤ x <;> by_cases h2 : x ≤ 200 <;> simp only [h1, h2, decide_true, decide_false, Bool.and_true, Bool.and_false, Bool.true_and, Bool.false_and]
  all_goals
    go_enter Try.func89, Try.ntmps89
    go_wp2
    all_goals
      go_ret
      first | exact ⟨rfl, rfl⟩ | (simp; omega)
theorem l01Teeth_is {x : Int} {t : Bool} (h : teethB x = t) (w : World) : Calls Try.prog 89 #[.int .i64 x] w fun e w' => e = .returned (.bool t) ∧ w = w' := by
  subst h
  exact l01Teeth_any x w
theorem l00In_any (x a b : Int) (w : World) : Calls Try.prog 90 #[.int .i64 x, .int .i64 a, .int .i64 b] w fun e w' => e = .returned (.bool (decide (a ≤ x) && decide (x ≤ b))) ∧ w = w' := by
  by_cases h1 : a ≤ x <;> by_cases h2 : x ≤ b <;> simp only [h1, h2, decide_true, decide_false, Bool.and_true, Bool.and_false, Bool.true_and, Bool.false_and]
  all_goals
    go_enter Try.func90, Try.ntmps90
    go_wp2
    all_goals
      go_ret
      first | exact ⟨rfl, rfl⟩ | (simp; omega)
set_option maxHeartbeats 2000000 in
theorem implOk_any (A : Option Addr) (n c : Nat) (zs : List Int) (w : World) (hl : zs.length = n) (hn : n ≤ 1048576) (hw : ∀ z ∈ zs, I16 z) {B0 : Nat} (hT : Ii w B0 A zs) :
    Calls Try.prog 63 #[.slice A n c] w (RV (.bool (okZ zs)) w) := by
  have Hl := Lib.hid hl; clear hl
  have HT := Lib.hid hT; clear hT
  have Hw := Lib.hid hw; clear hw
  by_cases hs : 2 ≤ n ∧ n ≤ 24
  rotate_left
  · rw [okZ_len (by rw [Hl.out]; exact hs)]
    rcases (by omega : n < 2 ∨ 24 < n) with hs | hs
    all_goals
      go_enter Try.func63, Try.ntmps63
      go_wp2
      go_ret
      exact ⟨rfl, Below.refl _ _⟩
  obtain ⟨s1, s2⟩ := hs
  go_enter Try.func63, Try.ntmps63
  go_wp2
  go_loopw [15] (fun i wr => ∃ k : Nat, k ≤ n ∧ i = .int .i64 k ∧ Hid (∀ i, i < k → okAt zs i) ∧ w = wr) (fun i _ => n - (intOf i).toNat)
  case atStart => exact ⟨0, Nat.zero_le _, rfl, fun i hi => absurd hi (by omega), rfl⟩
  case round =>
    obtain ⟨k, hk, rfl, hp, rfl⟩ := hrel
    by_cases hlt : k < n
    · have hkl : k < zs.length := by have := Hl.out; omega
      obtain ⟨b, off, rfl, hbs, hc⟩ := HT.out (by omega)
      obtain ⟨z, hz⟩ : ∃ z, zs[k]? = some z := ⟨_, List.getElem?_eq_getElem hkl⟩
      have c0 := hc k z hz
      obtain ⟨i1, i2⟩ := Hw.out z (List.mem_of_getElem? hz)
      have Hbad : Hid (¬ okAt zs k → okZ zs = false) := fun h => okZ_bad hkl h
      have Hgood : Hid (okAt zs k → ∀ i, i < k + 1 → okAt zs i) := fun h i hi => by
        rcases (by omega : i < k ∨ i = k) with h' | rfl
        · exact hp.out i h'
        · exact h
      have Hz := Lib.hid (getD_of hz)
      clear hp
      cases ht : teethB z
      · have Hf := Lib.hid (Hbad.out (fun h => by unfold okAt at h; rw [Hz.out] at h; unfold teethB at ht; simp at ht; omega))
        have g0 : (0 : Int) ≤ (k : Int) := by omega
        have g1 : (k : Int) < (n : Int) := by omega
        clear hc hkl hz Hgood
        go_wp2_with (go_at_call 91; refine (areTeeth_is ht _).mono ?_; rintro e w' ⟨rfl, rfl⟩)
        go_ret
        exact ⟨by rw [Hf.out]; rfl, Below.refl _ _⟩
      · by_cases hk0 : k = 0
        · have Hg := Lib.hid (Hgood.out (by unfold okAt; rw [Hz.out]; unfold teethB at ht; simp at ht; exact ⟨ht, fun h => absurd h (by omega)⟩))
          subst hk0
          have c9 : w.cell? ⟨b, off, none⟩ = some (.int .i16 z) := c0
          have g1 : (0 : Int) < (n : Int) := by omega
          clear hc hkl hz Hgood Hbad c0
          go_wp2_with (go_at_call 91; refine (areTeeth_is ht _).mono ?_; rintro e w' ⟨rfl, rfl⟩)
          go_roundw
          case rel => exact ⟨1, by omega, by go_num, Hg.out, by trivial⟩
          case measure => simp [intOf]; omega
        · obtain ⟨y, hy⟩ : ∃ y, zs[k - 1]? = some y := ⟨_, List.getElem?_eq_getElem (by omega)⟩
          have c1 := hc (k - 1) y hy
          have e1 : ((k : Int) - 1).toNat = k - 1 := by omega
          obtain ⟨j1, j2⟩ := Hw.out y (List.mem_of_getElem? hy)
          have Hy := Lib.hid (getD_of hy)
          have kp : 0 < k := by omega
          have kp' : (0 : Int) < (k : Int) := by omega
          have g0 : (0 : Int) ≤ (k : Int) := by omega
          have g1 : (k : Int) < (n : Int) := by omega
          have g2 : (0 : Int) ≤ (k : Int) - 1 := by omega
          have g3 : (k : Int) - 1 < (n : Int) := by omega
          by_cases hyz : y < z
          · have Hg := Lib.hid (Hgood.out (by unfold okAt; rw [Hz.out, Hy.out]; unfold teethB at ht; simp at ht; exact ⟨ht, fun _ => hyz⟩))
            clear hc hkl hz Hgood Hbad hy
            have hnle : ¬ z ≤ y := by omega
            go_wp2_with (go_at_call 91; refine (areTeeth_is ht _).mono ?_; rintro e w' ⟨rfl, rfl⟩)
            go_roundw
            case rel => exact ⟨k + 1, by omega, by go_num, Hg.out, by trivial⟩
            case measure => simp [intOf]; omega
          · have Hf := Lib.hid (Hbad.out (fun h => by unfold okAt at h; rw [Hz.out, Hy.out] at h; exact hyz (h.2 kp)))
            clear hc hkl hz Hgood Hbad hy
            have hle : z ≤ y := by omega
            go_wp2_with (go_at_call 91; refine (areTeeth_is ht _).mono ?_; rintro e w' ⟨rfl, rfl⟩)
            go_ret
            exact ⟨by rw [Hf.out]; rfl, Below.refl _ _⟩
    · obtain rfl : k = n := by omega
      have Hf := Lib.hid (okZ_good (by rw [Hl.out]; exact ⟨s1, s2⟩) (by rw [Hl.out]; exact hp.out))
      go_wp2
      go_ret
      exact ⟨by rw [Hf.out]; rfl, Below.refl _ _⟩
set_option maxHeartbeats 2000000 in
theorem specOk_any (A : Option Addr) (n c : Nat) (zs : List Int) (w : World) (hl : zs.length = n) (hn : n ≤ 1048576) (hw : ∀ z ∈ zs, I16 z) {B0 : Nat} (hT : Ii w B0 A zs) :
    Calls Try.prog 61 #[.slice A n c] w (RV (.bool (okZ zs)) w) := by
  have Hl := Lib.hid hl; clear hl
  have HT := Lib.hid hT; clear hT
  have Hw := Lib.hid hw; clear hw
  go_enter Try.func61, Try.ntmps61
  go_wp2
  go_loopw [3] (fun i wr => ∃ k : Nat, k ≤ n ∧ i = .int .i64 k ∧ Hid (∀ i, i < k → okAt zs i) ∧ w.heap = wr.heap ∧ Below w.heap.size w wr) (fun i _ => n - (intOf i).toNat)
  case atStart => exact ⟨0, Nat.zero_le _, rfl, fun i hi => absurd hi (by omega), rfl, Below.refl _ _⟩
  case round =>
    obtain ⟨k, hk, rfl, hp, hh, hb⟩ := hrel
    have Hb := Lib.hid hb; clear hb
    have Hh := Lib.hid hh; clear hh
    by_cases hlt : k < n
    · have hkl : k < zs.length := by have := Hl.out; omega
      obtain ⟨b, off, rfl, hbs, hc⟩ := HT.out (by omega)
      obtain ⟨z, hz⟩ : ∃ z, zs[k]? = some z := ⟨_, List.getElem?_eq_getElem hkl⟩
      have c0 : wr.cell? ⟨b, off + k, none⟩ = some (.int .i16 z) := (World.cell?_of_block (w := w) (a := ⟨b, off + k, none⟩) (by rw [Hh.out])).trans (hc k z hz)
      obtain ⟨i1, i2⟩ := Hw.out z (List.mem_of_getElem? hz)
      have Hbad : Hid (¬ okAt zs k → okZ zs = false) := fun h => okZ_bad hkl h
      have Hgood : Hid (okAt zs k → ∀ i, i < k + 1 → okAt zs i) := fun h i hi => by
        rcases (by omega : i < k ∨ i = k) with h' | rfl
        · exact hp.out i h'
        · exact h
      have Hz := Lib.hid (getD_of hz)
      clear hp
      cases ht : teethB z
      · have Hf := Lib.hid (Hbad.out (fun h => by unfold okAt at h; rw [Hz.out] at h; unfold teethB at ht; simp at ht; omega))
        have g0 : (0 : Int) ≤ (k : Int) := by omega
        have g1 : (k : Int) < (n : Int) := by omega
        clear hc hkl hz Hgood
        go_wp2_with fail
        go_quiet ((go_at_call 89; exact Calls.quiet_of_same ((l01Teeth_is ht _).mono fun _ _ h => ⟨h.1, h.2.symm⟩)))
        go_wp2
        go_ret
        exact ⟨by rw [Hf.out]; rfl, by first | exact Hb.out | exact b_drewN Hb.out _⟩
      · by_cases hk0 : k = 0
        · have Hg := Lib.hid (Hgood.out (by unfold okAt; rw [Hz.out]; unfold teethB at ht; simp at ht; exact ⟨ht, fun h => absurd h (by omega)⟩))
          subst hk0
          have c9 : wr.cell? ⟨b, off, none⟩ = some (.int .i16 z) := c0
          have g1 : (0 : Int) < (n : Int) := by omega
          clear hc hkl hz Hgood Hbad c0
          go_wp2_with fail
          go_quiet ((go_at_call 89; exact Calls.quiet_of_same ((l01Teeth_is ht _).mono fun _ _ h => ⟨h.1, h.2.symm⟩)))
          go_wp2
          go_roundw
          case rel => exact ⟨1, by omega, by go_num, Hg.out, Hh.out, b_drewN Hb.out _⟩
          case measure => simp [intOf]; omega
        · obtain ⟨y, hy⟩ : ∃ y, zs[k - 1]? = some y := ⟨_, List.getElem?_eq_getElem (by omega)⟩
          have c1 : wr.cell? ⟨b, off + (k - 1), none⟩ = some (.int .i16 y) := (World.cell?_of_block (w := w) (a := ⟨b, off + (k - 1), none⟩) (by rw [Hh.out])).trans (hc (k - 1) y hy)
          have e1 : ((k : Int) - 1).toNat = k - 1 := by omega
          obtain ⟨j1, j2⟩ := Hw.out y (List.mem_of_getElem? hy)
          have Hy := Lib.hid (getD_of hy)
          have kp : 0 < k := by omega
          have kp' : (0 : Int) < (k : Int) := by omega
          have g0 : (0 : Int) ≤ (k : Int) := by omega
          have g1 : (k : Int) < (n : Int) := by omega
          have g2 : (0 : Int) ≤ (k : Int) - 1 := by omega
          have g3 : (k : Int) - 1 < (n : Int) := by omega
          by_cases hyz : y < z
          · have Hg := Lib.hid (Hgood.out (by unfold okAt; rw [Hz.out, Hy.out]; unfold teethB at ht; simp at ht; exact ⟨ht, fun _ => hyz⟩))
            clear hc hkl hz Hgood Hbad hy
            have hnle : ¬ z ≤ y := by omega
            go_wp2_with fail
            go_quiet ((go_at_call 89; exact Calls.quiet_of_same ((l01Teeth_is ht _).mono fun _ _ h => ⟨h.1, h.2.symm⟩)))
            go_wp2
            go_roundw
            case rel => exact ⟨k + 1, by omega, by go_num, Hg.out, Hh.out, b_drewN Hb.out _⟩
            case measure => simp [intOf]; omega
          · have Hf := Lib.hid (Hbad.out (fun h => by unfold okAt at h; rw [Hz.out, Hy.out] at h; exact hyz (h.2 kp)))
            clear hc hkl hz Hgood Hbad hy
            have hle : z ≤ y := by omega
            go_wp2_with fail
            go_quiet ((go_at_call 89; exact Calls.quiet_of_same ((l01Teeth_is ht _).mono fun _ _ h => ⟨h.1, h.2.symm⟩)))
            go_wp2
            go_ret
            exact ⟨by rw [Hf.out]; rfl, by first | exact Hb.out | exact b_drewN Hb.out _⟩
    · obtain rfl : k = n := by omega
      by_cases h2 : 2 ≤ k
      · by_cases h24 : k ≤ 24
        · have Hf := Lib.hid (okZ_good (by rw [Hl.out]; exact ⟨h2, h24⟩) (by rw [Hl.out]; exact hp.out))
          go_wp2_with (go_at_call 90; refine (l00In_any _ _ _ _).mono ?_; rintro e w' ⟨rfl, rfl⟩)
          go_ret
          exact ⟨by rw [Hf.out]; simp; omega, by first | exact Hb.out | exact b_drewN Hb.out _⟩
        · have Hf := Lib.hid (okZ_len (zs := zs) (by rw [Hl.out]; omega))
          go_wp2_with (go_at_call 90; refine (l00In_any _ _ _ _).mono ?_; rintro e w' ⟨rfl, rfl⟩)
          go_ret
          exact ⟨by rw [Hf.out]; simp; omega, by first | exact Hb.out | exact b_drewN Hb.out _⟩
      · have Hf := Lib.hid (okZ_len (zs := zs) (by rw [Hl.out]; omega))
        go_wp2_with (go_at_call 90; refine (l00In_any _ _ _ _).mono ?_; rintro e w' ⟨rfl, rfl⟩)
        go_ret
        exact ⟨by rw [Hf.out]; simp; omega, by first | exact Hb.out | exact b_drewN Hb.out _⟩
theorem implOk_is {t : Bool} {A : Option Addr} {n c : Nat} {zs : List Int} {w : World} (ht : okZ zs = t) (hl : zs.length = n) (hn : n ≤ 1048576) (hw : ∀ z ∈ zs, I16 z) {B0 : Nat} (hT : Ii w B0 A zs) : Calls Try.prog 63 #[.slice A n c] w (RV (.bool t) w) := by
  subst ht
  exact implOk_any A n c zs w hl hn hw hT
theorem specOk_is {t : Bool} {A : Option Addr} {n c : Nat} {zs : List Int} {w : World} (ht : okZ zs = t) (hl : zs.length = n) (hn : n ≤ 1048576) (hw : ∀ z ∈ zs, I16 z) {B0 : Nat} (hT : Ii w B0 A zs) : Calls Try.prog 61 #[.slice A n c] w (RV (.bool t) w) := by
  subst ht
  exact specOk_any A n c zs w hl hn hw hT
end Go.Proofs.Ytaodpopghacmaaa
