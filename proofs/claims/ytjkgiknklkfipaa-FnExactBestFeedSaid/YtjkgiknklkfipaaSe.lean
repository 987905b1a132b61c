/-
  The codes of a stone; what it tells at a speed: the program's functions and the model's.
-/
import Derived.Test.YtjkgiknklkfipaaSl
import Derived.Test.YtjkgiknklkfipaaFs2
import Derived.Test.YtjkgiknklkfipaaFlIn2
namespace Go.Proofs.Ytjkgiknklkfipaa
open Go.RowKit Go.ChangeShapes Go.WideShapes Go.Deep
attribute [local go_sem ↓] Go.wp_at_zero Go.wp_at_succ
set_option linter.unusedVariables false
set_option linter.unusedSimpArgs false
set_option maxRecDepth 100000
def codeR (ok rng : Bool) : Int := if ok then (if rng then 0 else 2) else 1
theorem rt_zero : rtB 0 = true := by decide +kernel
theorem ps_zero : psB 0 = true := by decide +kernel
theorem stoneError_any (S : Sn) (b : Bool) (w : World) : Calls Try.prog 95 #[.agg #[.float .f32 S.d, .float .f32 S.r, .float .f32 S.b, .float .f32 S.g], .bool b] w (RV (.int .i64 (codeR (okS S) b)) w) := by
  rcases Bool.eq_false_or_eq_true (okS S) with h1 | h1 <;> cases b
  all_goals
    simp only [h1, codeR, Bool.and_self, Bool.and_true, Bool.true_and, Bool.and_false, Bool.false_and, if_true, if_false, Bool.false_eq_true]
    go_enter Try.func95, Try.ntmps95
    go_wp2_with (go_at_call 118; refine (validStone_any S _).mono ?_; rintro e w1 ⟨rfl, b1⟩)
    go_ret
    refine ⟨by first | rfl | simp [h1], ?_⟩
    (repeat (first | exact Below.refl _ _ | refine b_drewN ?_ _ | refine b_drew ?_ | refine b_alloc ?_ _ | refine b_then ?_ (by assumption)))
theorem stoneError_is {S : Sn} {b : Bool} {c : Int} (h : codeR (okS S) b = c) (w : World) : Calls Try.prog 95 #[.agg #[.float .f32 S.d, .float .f32 S.r, .float .f32 S.b, .float .f32 S.g], .bool b] w (RV (.int .i64 c) w) := by
  subst h
  exact stoneError_any S b w
theorem specAsk_any (S : Sn) (a b : Nat) (w : World) : Calls Try.prog 91 #[.agg #[.float .f32 S.d, .float .f32 S.r, .float .f32 S.b, .float .f32 S.g], .float .f32 a, .float .f32 b] w (RV (.int .i64 (codeR (okS S) (rtB a && rtB b))) w) := by
  rcases Bool.eq_false_or_eq_true (okS S) with h1 | h1 <;> rcases Bool.eq_false_or_eq_true (rtB a) with h2 | h2 <;> rcases Bool.eq_false_or_eq_true (rtB b) with h3 | h3
  all_goals
    simp only [h1, h2, h3, codeR, Bool.and_self, Bool.and_true, Bool.true_and, Bool.and_false, Bool.false_and, if_true, if_false, Bool.false_eq_true]
    go_enter Try.func91, Try.ntmps91
    go_wp2_with (first | (go_at_call 66; refine (l04Ok_any S _).mono ?_; rintro e w1 ⟨rfl, b1⟩) | (go_at_call 68; refine (l04Rate_any _ _).mono ?_; rintro e w1 ⟨rfl, rfl⟩))
    go_ret
    refine ⟨rfl, ?_⟩
    (repeat (first | exact Below.refl _ _ | refine b_drewN ?_ _ | refine b_drew ?_ | refine b_alloc ?_ _ | refine b_then ?_ (by assumption)))
theorem specAsk_is {S : Sn} {a b : Nat} {c : Int} (h : codeR (okS S) (rtB a && rtB b) = c) (w : World) : Calls Try.prog 91 #[.agg #[.float .f32 S.d, .float .f32 S.r, .float .f32 S.b, .float .f32 S.g], .float .f32 a, .float .f32 b] w (RV (.int .i64 c) w) := by
  subst h
  exact specAsk_any S a b w
set_option maxHeartbeats 1000000 in
theorem allRate_any (A : Option Addr) (n c : Nat) (fs : List Nat) (w : World) (hl : fs.length = n) (hn : n ≤ maxLen) {B0 : Nat} (hT : Fo w B0 A fs) :
    Calls Try.prog 57 #[.func (.func 59) #[] #[], .slice A n c] w fun e w' => e = .returned (.bool (fs.all rtB)) ∧ w = w' := by
  unfold maxLen at hn
  have Hl := Lib.hid hl; clear hl
  have HT := Lib.hid hT; clear hT
  go_enter Try.func57, Try.ntmps57
  go_wp2
  go_loop [9] (fun i => ∃ k : Nat, k ≤ n ∧ i = .int .i64 k ∧ Hid ((fs.take k).all rtB = true)) (fun i => n - (intOf i).toNat)
  case atStart => exact ⟨0, Nat.zero_le _, rfl, (by show _ = _; simp)⟩
  case round =>
    obtain ⟨k, hk, rfl, hp⟩ := hrel
    by_cases hlt : k < n
    · have hkl : k < fs.length := by have := Hl.out; omega
      obtain ⟨b, off, rfl, hbs, hc⟩ := HT.out (by omega)
      obtain ⟨f, hf⟩ : ∃ f, fs[k]? = some f := ⟨_, List.getElem?_eq_getElem hkl⟩
      have c0 := hc k f hf
      have hs : Hid ((fs.take (k + 1)).all rtB = ((fs.take k).all rtB && rtB f)) := by
        show _ = _
        rw [List.take_add_one, hf, List.all_append]
        simp
      have hd : Hid (rtB f = false → fs.all rtB = false) := fun h => List.all_eq_false.2 ⟨f, List.mem_of_getElem? hf, by simp [h]⟩
      clear hc hkl hf
      rcases Bool.eq_false_or_eq_true (rtB f) with hr | hr
      · have hs2 : Hid ((fs.take (k + 1)).all rtB = true) := by show _ = _; rw [hs.out, hp.out, hr]; rfl
        clear hs hp hd
        go_wp2_with (go_at_call 59; refine (isRate_any _ _).mono ?_; rintro e w1 ⟨rfl, rfl⟩)
        go_round
        case rel => exact ⟨k + 1, by omega, by go_num, hs2⟩
        case measure => simp [intOf]; omega
      · have hd2 := Lib.hid (hd.out hr)
        clear hs hp hd
        go_wp2_with (go_at_call 59; refine (isRate_any _ _).mono ?_; rintro e w1 ⟨rfl, rfl⟩)
        go_ret
        exact ⟨by rw [hd2.out]; rfl, rfl⟩
    · obtain rfl : k = n := by omega
      go_wp2
      go_ret
      refine ⟨?_, rfl⟩
      have := hp.out
      rw [List.take_of_length_le (by have := Hl.out; omega)] at this
      rw [this]
      rfl
theorem allRate_is {t : Bool} {A : Option Addr} {n c : Nat} {fs : List Nat} {w : World} (ht : fs.all rtB = t) (hl : fs.length = n) (hn : n ≤ maxLen) {B0 : Nat} (hT : Fo w B0 A fs) :
    Calls Try.prog 57 #[.func (.func 59) #[] #[], .slice A n c] w fun e w' => e = .returned (.bool t) ∧ w = w' := by
  subst ht
  exact allRate_any A n c fs w hl hn hT
set_option maxHeartbeats 1000000 in
theorem allSize_any (A : Option Addr) (n c : Nat) (fs : List Nat) (w : World) (hl : fs.length = n) (hn : n ≤ maxLen) {B0 : Nat} (hT : Fo w B0 A fs) :
    Calls Try.prog 57 #[.func (.func 58) #[] #[], .slice A n c] w fun e w' => e = .returned (.bool (fs.all psB)) ∧ w = w' := by
  unfold maxLen at hn
  have Hl := Lib.hid hl; clear hl
  have HT := Lib.hid hT; clear hT
  go_enter Try.func57, Try.ntmps57
  go_wp2
  go_loop [9] (fun i => ∃ k : Nat, k ≤ n ∧ i = .int .i64 k ∧ Hid ((fs.take k).all psB = true)) (fun i => n - (intOf i).toNat)
  case atStart => exact ⟨0, Nat.zero_le _, rfl, (by show _ = _; simp)⟩
  case round =>
    obtain ⟨k, hk, rfl, hp⟩ := hrel
    by_cases hlt : k < n
    · have hkl : k < fs.length := by have := Hl.out; omega
      obtain ⟨b, off, rfl, hbs, hc⟩ := HT.out (by omega)
      obtain ⟨f, hf⟩ : ∃ f, fs[k]? = some f := ⟨_, List.getElem?_eq_getElem hkl⟩
      have c0 := hc k f hf
      have hs : Hid ((fs.take (k + 1)).all psB = ((fs.take k).all psB && psB f)) := by
        show _ = _
        rw [List.take_add_one, hf, List.all_append]
        simp
      have hd : Hid (psB f = false → fs.all psB = false) := fun h => List.all_eq_false.2 ⟨f, List.mem_of_getElem? hf, by simp [h]⟩
      clear hc hkl hf
      rcases Bool.eq_false_or_eq_true (psB f) with hr | hr
      · have hs2 : Hid ((fs.take (k + 1)).all psB = true) := by show _ = _; rw [hs.out, hp.out, hr]; rfl
        clear hs hp hd
        go_wp2_with (go_at_call 58; refine (isPlainSize_any _ _).mono ?_; rintro e w1 ⟨rfl, rfl⟩)
        go_round
        case rel => exact ⟨k + 1, by omega, by go_num, hs2⟩
        case measure => simp [intOf]; omega
      · have hd2 := Lib.hid (hd.out hr)
        clear hs hp hd
        go_wp2_with (go_at_call 58; refine (isPlainSize_any _ _).mono ?_; rintro e w1 ⟨rfl, rfl⟩)
        go_ret
        exact ⟨by rw [hd2.out]; rfl, rfl⟩
    · obtain rfl : k = n := by omega
      go_wp2
      go_ret
      refine ⟨?_, rfl⟩
      have := hp.out
      rw [List.take_of_length_le (by have := Hl.out; omega)] at this
      rw [this]
      rfl
theorem allSize_is {t : Bool} {A : Option Addr} {n c : Nat} {fs : List Nat} {w : World} (ht : fs.all psB = t) (hl : fs.length = n) (hn : n ≤ maxLen) {B0 : Nat} (hT : Fo w B0 A fs) :
    Calls Try.prog 57 #[.func (.func 58) #[] #[], .slice A n c] w fun e w' => e = .returned (.bool t) ∧ w = w' := by
  subst ht
  exact allSize_any A n c fs w hl hn hT
theorem codeR_cases {o r : Bool} {K : Int} (h : codeR o r = K) : K = 0 ∨ K = 1 ∨ K = 2 := by
  subst h
  unfold codeR
  cases o <;> cases r <;> simp
theorem fo_two {w : World} {q a b : Nat} (h0 : w.cell? ⟨q, 0, none⟩ = some (.float .f32 a)) (h1 : w.cell? ⟨q, 1, none⟩ = some (.float .f32 b)) : Fo w (q + 1) (some ⟨q, 0, none⟩) [a, b] := fun _ =>
  ⟨q, 0, rfl, Nat.lt_succ_self q, fun i f hf => by
    rw [Nat.zero_add]
    match i, hf with
    | 0, hf => simp at hf; subst hf; exact h0
    | 1, hf => simp at hf; subst hf; exact h1⟩
end Go.Proofs.Ytjkgiknklkfipaa
