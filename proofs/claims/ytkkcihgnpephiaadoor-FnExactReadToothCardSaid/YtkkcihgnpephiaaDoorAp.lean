/-
  'all' over parts.
-/
import Derived.Test.YtkkcihgnpephiaaDoorULawsA
import Derived.Test.YtkkcihgnpephiaaDoorFlIn2
import Derived.Deep.DeepCutAuto
namespace Go.Proofs.YtkkcihgnpephiaaDoor
open Go.RowKit Go.ChangeShapes Go.WideShapes Go.Deep
attribute [local go_sem ↓] Go.wp_at_zero Go.wp_at_succ
set_option linter.unusedVariables false
set_option linter.unusedSimpArgs false
set_option maxRecDepth 100000

set_option maxHeartbeats 1000000 in
theorem allPart_any (A : Option Addr) (n c : Nat) (fs : List Nat) (w : World) (hl : fs.length = n) (hn : n ≤ maxLen) {B0 : Nat} (hT : Fo w B0 A fs) :
    Calls Tryd.prog 117 #[.func (.func 113) #[] #[], .slice A n c] w fun e w' => e = .returned (.bool (fs.all partB)) ∧ w = w' := by
  unfold maxLen at hn
  have Hl := Lib.hid hl; clear hl
  have HT := Lib.hid hT; clear hT
  go_enter Tryd.func117, Tryd.ntmps117
  go_wp2
  go_loop [9] (fun i => ∃ k : Nat, k ≤ n ∧ i = .int .i64 k ∧ Hid ((fs.take k).all partB = true)) (fun i => n - (intOf i).toNat)
  case atStart => exact ⟨0, Nat.zero_le _, rfl, (by show _ = _; simp)⟩
  case round =>
    obtain ⟨k, hk, rfl, hp⟩ := hrel
    by_cases hlt : k < n
    · have hkl : k < fs.length := by have := Hl.out; omega
      obtain ⟨b, off, rfl, hbs, hc⟩ := HT.out (by omega)
      obtain ⟨f, hf⟩ : ∃ f, fs[k]? = some f := ⟨_, List.getElem?_eq_getElem hkl⟩
      have c0 := hc k f hf
      have hs : Hid ((fs.take (k + 1)).all partB = ((fs.take k).all partB && partB f)) := by
        show _ = _
        rw [List.take_add_one, hf, List.all_append]
        simp
      have hd : Hid (partB f = false → fs.all partB = false) := fun h => List.all_eq_false.2 ⟨f, List.mem_of_getElem? hf, by simp [h]⟩
      clear hc hkl hf
      rcases Bool.eq_false_or_eq_true (partB f) with hr | hr
      · have hs2 : Hid ((fs.take (k + 1)).all partB = true) := by show _ = _; rw [hs.out, hp.out, hr]; rfl
        clear hs hp hd
        go_wp2_with (go_at_call 113; refine (isPart_any _ _).mono ?_; rintro e w1 ⟨rfl, rfl⟩)
        go_round
        case rel => exact ⟨k + 1, by omega, by go_num, hs2⟩
        case measure => simp [intOf]; omega
      · have hd2 := Lib.hid (hd.out hr)
        clear hs hp hd
        go_wp2_with (go_at_call 113; refine (isPart_any _ _).mono ?_; rintro e w1 ⟨rfl, rfl⟩)
        go_ret
        exact ⟨by rw [hd2.out]; rfl, rfl⟩
    · obtain rfl : k = n := by omega
      go_wp2
      go_ret
      refine ⟨?_, rfl⟩
      have := hp.out
      rw [List.take_of_length_le (by have := Hl.out; omega)] at this
      rw [this]
      rfl
theorem allPart_is {t : Bool} {A : Option Addr} {n c : Nat} {fs : List Nat} {w : World} (ht : fs.all partB = t) (hl : fs.length = n) (hn : n ≤ maxLen) {B0 : Nat} (hT : Fo w B0 A fs) :
    Calls Tryd.prog 117 #[.func (.func 113) #[] #[], .slice A n c] w fun e w' => e = .returned (.bool t) ∧ w = w' := by
  subst ht
  exact allPart_any A n c fs w hl hn hT
end Go.Proofs.YtkkcihgnpephiaaDoor
