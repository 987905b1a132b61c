/-
  The speeds behind several belts, one after the other: the model's function and the program's.
-/
import Derived.Test.YtolbacgfcobmdaaBeltS
import Derived.Test.YtolbacgfcobmdaaBv
import Derived.Test.YtolbacgfcobmdaaFs2
import Derived.Deep.DeepCutAuto
namespace Go.Proofs.Ytolbacgfcobmdaa
open Go.RowKit Go.ChangeShapes Go.WideShapes Go.Deep
attribute [local go_sem ↓] Go.wp_at_zero Go.wp_at_succ
set_option linter.unusedVariables false
set_option linter.unusedSimpArgs false
def outF (a b : Nat) (x : Bool) (s p : Nat) : Nat := let o := f2 .mul (f2 .mul s (f2 .quo a b)) (f2 .sub (cn 1065353216) p); if x then fneg o else o
def outC (B : Bl) (s p : Nat) : Nat := outF (cn B.a) (cn B.b) B.x (cn s) (cn p)
set_option maxHeartbeats 4000000 in
theorem l02OkAt_any (B : Bl) (q o : Nat) (w : World) (c0 : w.cell? ⟨q, o, none⟩ = some (.float .f32 B.a)) (c1 : w.cell? ⟨q, o + 1, none⟩ = some (.float .f32 B.b)) (c2 : w.cell? ⟨q, o + 2, none⟩ = some (.float .f32 B.ap)) (c3 : w.cell? ⟨q, o + 3, none⟩ = some (.float .f32 B.g)) :
    Calls Try.prog 49 #[.pointer (some ⟨q, o, none⟩)] w fun e w' => e = .returned (.bool (okB B)) ∧ ∃ n, w' = w.drewN n := by
  rcases Bool.eq_false_or_eq_true (radB B.a) with h1 | h1
  · rcases Bool.eq_false_or_eq_true (radB B.b) with h2 | h2
    · obtain ⟨s, hs⟩ := add_num (rad_num h1) (rad_num h2)
      have hsum : sumC B = s := f2_some hs
      have ra := fun w => run_float_arith (P := Try.prog) w .add 24 .f32 _ _ _ hs
      clear hs
      rcases Bool.eq_false_or_eq_true (oGe B.ap s) with h3 | h3
      · rcases Bool.eq_false_or_eq_true (oLe B.ap 1199570944) with h4 | h4
        · rcases Bool.eq_false_or_eq_true (oGe B.g 0) with h5 | h5
          · rcases Bool.eq_false_or_eq_true (oLe B.g 1073741824) with h6 | h6
            all_goals
              first
                | (have hk : okB B = true := by simp [okB, fitB, hsum, h1, h2, h3, h4, h5, h6])
                | (have hk : okB B = false := by simp [okB, fitB, hsum, h1, h2, h3, h4, h5, h6])
              rw [hk]
              clear hk hsum
              unfold oGe oLe at *
              go_enter Try.func49, Try.ntmps49
              go_wp2_with fail
              go_quiet ((go_at_call 62; exact Calls.quiet_of_same (l02Radius_is (by assumption) _)))
              go_wp2
              go_ret
              exact ⟨rfl, _, rfl⟩
          all_goals
            have hk : okB B = false := by simp [okB, fitB, hsum, h1, h2, h3, h4, h5]
            rw [hk]
            clear hk hsum
            unfold oGe oLe at *
            go_enter Try.func49, Try.ntmps49
            go_wp2_with fail
            go_quiet ((go_at_call 62; exact Calls.quiet_of_same (l02Radius_is (by assumption) _)))
            go_wp2
            go_ret
            exact ⟨rfl, _, rfl⟩
        all_goals
          have hk : okB B = false := by simp [okB, fitB, hsum, h1, h2, h3, h4]
          rw [hk]
          clear hk hsum
          unfold oGe oLe at *
          go_enter Try.func49, Try.ntmps49
          go_wp2_with fail
          go_quiet ((go_at_call 62; exact Calls.quiet_of_same (l02Radius_is (by assumption) _)))
          go_wp2
          go_ret
          exact ⟨rfl, _, rfl⟩
      all_goals
        have hk : okB B = false := by simp [okB, fitB, hsum, h1, h2, h3]
        rw [hk]
        clear hk hsum
        unfold oGe at *
        go_enter Try.func49, Try.ntmps49
        go_wp2_with fail
        go_quiet ((go_at_call 62; exact Calls.quiet_of_same (l02Radius_is (by assumption) _)))
        go_wp2
        go_ret
        exact ⟨rfl, _, rfl⟩
    all_goals
      have hk : okB B = false := by simp [okB, h1, h2]
      rw [hk]
      clear hk
      go_enter Try.func49, Try.ntmps49
      go_wp2_with fail
      go_quiet ((go_at_call 62; exact Calls.quiet_of_same (l02Radius_is (by assumption) _)))
      go_wp2
      go_ret
      exact ⟨rfl, _, rfl⟩
  all_goals
    have hk : okB B = false := by simp [okB, h1]
    rw [hk]
    clear hk
    go_enter Try.func49, Try.ntmps49
    go_wp2_with fail
    go_quiet ((go_at_call 62; exact Calls.quiet_of_same (l02Radius_is (by assumption) _)))
    go_wp2
    go_ret
    exact ⟨rfl, _, rfl⟩
theorem implOut_any (B : Bl) (s p : Nat) (w : World) : Calls Try.prog 54 #[.agg #[.float .f32 B.a, .float .f32 B.b, .float .f32 B.ap, .float .f32 B.g, .bool B.x], .float .f32 s, .float .f32 p] w (RF (outC B s p) w) := by
  obtain ⟨R, N, hR, hC⟩ := ops_fun Try.prog 24; have ra := hR .add rfl; have rs := hR .sub rfl; have rm := hR .mul rfl; have rq := hR .quo rfl; have HC := Lib.hid hC; clear hC hR
  unfold outC outF
  rcases Bool.eq_false_or_eq_true B.x with hx | hx
  all_goals
    simp only [hx, if_true, if_false, Bool.false_eq_true]
    go_enter Try.func54, Try.ntmps54
    go_wp2
    go_ret
    refine ⟨_, rfl, ?_, ?_⟩
    · unfold CN
      simp only [cn_neg, HC.out .add rfl, HC.out .mul rfl, HC.out .quo rfl, HC.out .sub rfl]
    · (repeat (first | exact Below.refl _ _ | refine b_drewN ?_ _ | refine b_drew ?_ | refine b_alloc ?_ _ | refine b_then ?_ (by assumption)))
theorem outAt_any (B : Bl) (s p : Nat) (q o : Nat) (w : World) (h : w.rangeAt q o B.cells) : Calls Try.prog 51 #[.pointer (some ⟨q, o, none⟩), .float .f32 s, .float .f32 p] w (RF (outC B s p) w) := by
  obtain ⟨R, N, hR, hC⟩ := ops_fun Try.prog 24; have ra := hR .add rfl; have rs := hR .sub rfl; have rm := hR .mul rfl; have rq := hR .quo rfl; have HC := Lib.hid hC; clear hC hR
  unfold outC outF
  obtain ⟨c0, c1, c2, c3, c4⟩ := Bl.at h
  clear h
  rcases Bool.eq_false_or_eq_true B.x with hx | hx
  all_goals
    rw [hx] at c4
    simp only [hx, if_true, if_false, Bool.false_eq_true]
    clear hx
    go_enter Try.func51, Try.ntmps51
    go_wp2
    go_region_law (fail)
    all_goals
      go_wp2
      go_ret
      refine ⟨_, rfl, ?_, ?_⟩
      · unfold CN
        simp only [cn_neg, HC.out .add rfl, HC.out .mul rfl, HC.out .quo rfl, HC.out .sub rfl]
      · (repeat (first | exact Below.refl _ _ | refine b_drewN ?_ _ | refine b_drew ?_ | refine b_alloc ?_ _ | refine b_then ?_ (by assumption)))
theorem plain_any (m : Nat) (w : World) : Calls Try.prog 53 #[.float .f32 m] w fun e w' => e = .returned (.bool (plB m)) ∧ w = w' := by
  unfold plB oGe oLe
  go_enter Try.func53, Try.ntmps53
  go_wp2
  · go_ret
    exact ⟨rfl, rfl⟩
  · rename_i h
    go_ret
    refine ⟨?_, rfl⟩
    simp at h
    simp [h]
theorem l01Plain_any (m : Nat) (w : World) : Calls Try.prog 50 #[.float .f32 m] w fun e w' => e = .returned (.bool (plB m)) ∧ w = w' := by
  unfold plB oGe oLe
  go_enter Try.func50, Try.ntmps50
  go_wp2
  · go_ret
    exact ⟨rfl, rfl⟩
  · rename_i h
    go_ret
    refine ⟨?_, rfl⟩
    simp at h
    simp [h]
/-- The speeds, from canonical word x on. -/
def spL : List Bl → Nat → List Nat
  | [], x => [x]
  | B :: bs, x => x :: spL bs (outF (cn B.a) (cn B.b) B.x x (cn 0))
theorem spL_len : ∀ (bs : List Bl) (x : Nat), (spL bs x).length = bs.length + 1
  | [], _ => rfl
  | B :: bs, x => by rw [spL, List.length_cons, spL_len, List.length_cons]
theorem spL_zero (bs : List Bl) (x : Nat) : (spL bs x)[0]? = some x := by cases bs <;> rfl
theorem spL_step : ∀ (bs : List Bl) (x k y : Nat) (B : Bl), (spL bs x)[k]? = some y → bs[k]? = some B → (spL bs x)[k + 1]? = some (outF (cn B.a) (cn B.b) B.x y (cn 0)) := by
  intro bs
  induction bs with
  | nil => intro x k y B h1 h2; simp at h2
  | cons C bs ih =>
    intro x k y B h1 h2
    cases k with
    | zero =>
      simp at h2
      subst h2
      simp [spL] at h1
      subst h1
      rw [spL, List.getElem?_cons_succ]
      exact spL_zero _ _
    | succ k =>
      rw [spL, List.getElem?_cons_succ] at h1
      rw [spL, List.getElem?_cons_succ]
      exact ih _ k y B h1 (by simpa using h2)
def allOk (bs : List Bl) : Bool := bs.all okB
def spK (bs : List Bl) (s : Nat) : Int := if allOk bs then (if plB s then (if 12 < bs.length then 3 else 0) else 2) else 1
def spT (bs : List Bl) (s : Nat) : List Nat := if spK bs s = 0 then spL bs (cn s) else []
theorem spT_le (bs : List Bl) (s : Nat) : (spT bs s).length ≤ 13 := by
  unfold spT
  split
  · rename_i h
    rw [spL_len]
    unfold spK at h
    split at h
    · split at h
      · split at h
        · cases h
        · omega
      · cases h
    · cases h
  · simp
theorem take_snoc {cs : List Nat} {fs : List Nat} {k g : Nat} (h : fs.map cn = cs.take k) (hg : cs[k]? = some (cn g)) : (fs ++ [g]).map cn = cs.take (k + 1) := by
  rw [List.take_add_one, hg, List.map_append, h]
  rfl
theorem all_stop {bs : List Bl} {k : Nat} {B : Bl} (h : bs[k]? = some B) (hb : okB B = false) : allOk bs = false := by
  unfold allOk
  rw [List.all_eq_false]
  exact ⟨B, List.mem_of_getElem? h, by rw [hb]; decide⟩
theorem all_done {bs : List Bl} (h : ∀ (k : Nat) B, bs[k]? = some B → okB B = true) : allOk bs = true := by
  unfold allOk
  rw [List.all_eq_true]
  intro B hB
  obtain ⟨k, hk⟩ := List.mem_iff_getElem?.1 hB
  exact h k B hk
set_option maxRecDepth 100000 in
set_option maxHeartbeats 1000000 in
theorem areBelts_any (A : Option Addr) (n c : Nat) (ps : List Bl) (w : World) (hl : ps.length = n) (hn : n ≤ 1048576) (hT : Bl.L w w.heap.size A ps) :
    Calls Try.prog 52 #[.slice A n c] w (RV (.bool (allOk ps)) w) := by
  have Hl := Lib.hid hl; clear hl
  have HT := Lib.hid hT; clear hT
  go_enter Try.func52, Try.ntmps52
  go_wp2
  go_loopw [7] (fun i wr => ∃ k : Nat, k ≤ n ∧ i = .int .i64 k ∧ Below w.heap.size w wr ∧ ∀ j B, j < k → ps[j]? = some B → okB B = true) (fun i _ => n - (intOf i).toNat)
  case atStart => exact ⟨0, Nat.zero_le _, rfl, Below.refl _ _, fun j B h => absurd h (by omega)⟩
  case round =>
    obtain ⟨k, hk, rfl, hb, hz⟩ := hrel
    have Hb := Lib.hid hb; clear hb
    have Hz := Lib.hid hz; clear hz
    by_cases hlt : k < n
    · have hkl : k < ps.length := by have := Hl.out; omega
      obtain ⟨b, off, rfl, hbs, hc⟩ := HT.out (by omega)
      obtain ⟨B, hB⟩ : ∃ B, ps[k]? = some B := ⟨_, List.getElem?_eq_getElem hkl⟩
      obtain ⟨c0, c1, c2, c3, c4⟩ := Bl.at (rangeAt_of_block (hc k B hB) (Hb.out.block b hbs))
      have HB := Lib.hid hB
      clear hc hkl hB
      rcases Bool.eq_false_or_eq_true (okB B) with ho | ho
      · have Ho := Lib.hid ho
        go_wp2_with fail
        refine (validBelt_any B _).mono ?_
        rintro e w1 ⟨rfl, b1⟩
        rw [Ho.out]
        have Hb1 : Hid (Below w.heap.size w w1) := b_then (b_alloc Hb.out _) b1
        have Hz1 : Hid (∀ j B, j < k + 1 → ps[j]? = some B → okB B = true) := fun j C hj hC => by
          rcases (by omega : j < k ∨ j = k) with h | rfl
          · exact Hz.out j C h hC
          · have := HB.out; rw [hC] at this; cases this; exact Ho.out
        clear b1 c0 c1 c2 c3 c4 ho
        go_wp2
        go_roundw
        case rel => exact ⟨k + 1, by omega, by go_num, Hb1.out, Hz1.out⟩
        case measure => simp [intOf]; omega
      · have Ho := Lib.hid ho
        go_wp2_with fail
        refine (validBelt_any B _).mono ?_
        rintro e w1 ⟨rfl, b1⟩
        rw [Ho.out]
        have Hb1 : Hid (Below w.heap.size w w1) := b_then (b_alloc Hb.out _) b1
        clear b1 c0 c1 c2 c3 c4 ho
        go_wp2
        go_ret
        exact ⟨by rw [all_stop HB.out Ho.out]; rfl, Hb1.out⟩
    · have hkn : k = n := by omega
      subst hkn
      go_wp2
      go_ret
      exact ⟨by rw [all_done (bs := ps) (fun j B hj => Hz.out j B (by have := (List.getElem?_eq_some_iff.1 hj).1; have := Hl.out; omega) hj)]; rfl, Hb.out⟩
end Go.Proofs.Ytolbacgfcobmdaa
