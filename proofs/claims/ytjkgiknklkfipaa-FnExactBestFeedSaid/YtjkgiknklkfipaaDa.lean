/-
  The code of a day.
-/
import Derived.Test.YtjkgiknklkfipaaHd
import Derived.Test.YtjkgiknklkfipaaLe
namespace Go.Proofs.Ytjkgiknklkfipaa
open Go.RowKit Go.ChangeShapes Go.WideShapes Go.Deep
attribute [local go_sem ↓] Go.wp_at_zero Go.wp_at_succ
set_option linter.unusedVariables false
set_option linter.unusedSimpArgs false
set_option maxRecDepth 100000
def codeDay (S : Sn) (ts : List Nat) (n : Nat) (rng : Bool) : Int := if okS S then (if rng then (if 60 < n then 3 else 0) else 2) else 1
theorem amountD_is {m : Nat} {b : Bool} (h : psB m = b) (w : World) : Calls Try.prog 67 #[.float .f32 m] w fun e w' => e = .returned (.bool b) ∧ w = w' := by
  subst h
  exact l03Amount_any m w
set_option maxHeartbeats 2000000 in
theorem l04Day_any (S : Sn) (A : Option Addr) (n c : Nat) (ts : List Nat) (f : Nat) (b : Bool) (w : World) (hl : ts.length = n) (hn : n ≤ 1048576) (hT : Fo w w.heap.size A ts) :
    Calls Try.prog 54 #[.agg #[.float .f32 S.d, .float .f32 S.r, .float .f32 S.b, .float .f32 S.g], .slice A n c, .float .f32 f, .bool b] w (RV (.int .i64 (codeDay S ts n (rtB f && (b && ts.all psB)))) w) := by
  have Hl := Lib.hid hl; clear hl
  have HT := Lib.hid hT; clear hT
  have h0 := Lib.hid (AtSn.new w S)
  obtain ⟨K, hK⟩ : ∃ K, codeR (okS S) (rtB 0 && rtB f) = K := ⟨_, rfl⟩
  have hask := Lib.hid (fun w => specAsk_is (S := S) (a := 0) (b := f) hK w)
  have HK := Lib.hid hK; clear hK
  obtain ⟨c0, c1, c2, c3⟩ := h0.out.cells
  go_enter Try.func54, Try.ntmps54
  go_wp2_with (go_at_call 91; refine (hask.out _).mono ?_; rintro e w1 ⟨rfl, b1⟩; have B1 : Hid (Below w.heap.size w w1) := b_then (b_alloc (Below.refl _ _) _) b1; clear b1)
  clear c0 c1 c2 c3
  have HT1 := Lib.hid (HT.out.keep B1.out)
  go_loop [3, 10] (fun q i => ∃ (k : Nat) (t : Bool), k ≤ n ∧ q = .bool t ∧ i = .int .i64 k ∧ Hid ((b && (ts.take k).all psB) = t)) (fun _ i => n - (intOf i).toNat)
  case atStart => exact ⟨0, b, Nat.zero_le _, rfl, rfl, (by show _ = _; simp)⟩
  case round =>
    obtain ⟨k, t, hk, rfl, rfl, hp⟩ := hrel
    by_cases hlt : k < n
    · have hkl : k < ts.length := by have := Hl.out; omega
      obtain ⟨bl, off, rfl, hbs, hc⟩ := HT1.out (by omega)
      obtain ⟨y, hy⟩ : ∃ y, ts[k]? = some y := ⟨_, List.getElem?_eq_getElem hkl⟩
      have c0 := hc k y hy
      have hs : Hid ((b && (ts.take (k + 1)).all psB) = (t && psB y)) := by
        show _ = _
        rw [List.take_add_one, hy, List.all_append, ← hp.out]
        simp [Bool.and_assoc]
      clear hc hkl hy hp
      cases t
      · have hs2 : Hid ((b && (ts.take (k + 1)).all psB) = false) := by show _ = _; rw [hs.out]; rfl
        clear hs
        go_wp2
        go_round
        case rel => exact ⟨k + 1, false, by omega, rfl, by go_num, hs2⟩
        case measure => simp [intOf]; omega
      · obtain ⟨u, hu⟩ : ∃ u, psB y = u := ⟨_, rfl⟩
        have hs2 : Hid ((b && (ts.take (k + 1)).all psB) = u) := by show _ = _; rw [hs.out, hu]; rfl
        have Hu := Lib.hid hu
        clear hs hu
        go_wp2_with (go_at_call 67; refine (amountD_is Hu.out _).mono ?_; rintro e w2 ⟨rfl, rfl⟩)
        go_round
        case rel => exact ⟨k + 1, u, by omega, rfl, by go_num, hs2⟩
        case measure => simp [intOf]; omega
    · obtain rfl : k = n := by omega
      have ht : Hid ((b && ts.all psB) = t) := by
        have := hp.out
        rw [List.take_of_length_le (by have := Hl.out; omega)] at this
        exact this
      clear hp
      have hr0 : rtB 0 = true := rt_zero
      have HR : Hid (codeDay S ts k (rtB f && (b && ts.all psB)) = if K = 0 then (if t then (if 60 < k then 3 else 0) else 2) else K) := by
        show _ = _
        rw [← HK.out, ht.out]
        unfold codeDay codeR
        rw [hr0]
        cases okS S <;> cases rtB f <;> cases t <;> rfl
      clear hr0
      rcases codeR_cases HK.out with rfl | rfl | rfl
      · cases t
        · go_wp2
          go_ret
          exact ⟨by rw [HR.out]; rfl, B1.out⟩
        · by_cases h60 : 60 < (k : Int)
          · go_wp2
            go_ret
            exact ⟨by have h6 : 60 < k := (by omega); rw [HR.out]; simp [h6], B1.out⟩
          · go_wp2
            go_ret
            exact ⟨by have h6 : ¬ 60 < k := (by omega); rw [HR.out]; simp [h6], B1.out⟩
      all_goals
        go_wp2
        go_ret
        exact ⟨by rw [HR.out]; rfl, B1.out⟩
end Go.Proofs.Ytjkgiknklkfipaa
