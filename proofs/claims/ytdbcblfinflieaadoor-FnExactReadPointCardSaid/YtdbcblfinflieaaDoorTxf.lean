/-
  What the library reads at base sixteen.
-/
import Derived.Test.YtdbcblfinflieaaDoorTxd
import Derived.Lib.Strings
import Derived.Lib.Walk
import Derived.Lib.ConvBytes
import Derived.Lib.ParseIntBMem
import Derived.Laws.Strings3
import Derived.Laws.Closers25
import Derived.BigCall
import Derived.BigGuard
namespace Go.Proofs.YtdbcblfinflieaaDoor
open Go.RowKit Go.ChangeShapes Go.WideShapes Go.Deep
attribute [local go_sem ↓] Go.wp_at_zero Go.wp_at_succ
set_option linter.unusedVariables false
set_option linter.unusedSimpArgs false
set_option maxRecDepth 100000
def puT : PR → Value
  | .good n => .tuple #[.int .u64 n, .nilIface]
  | .bad => .tuple #[.int .u64 0, .iface 137 (.int .i64 2)]
  | .over => .tuple #[.int .u64 4294967295, .iface 137 (.int .i64 1)]
theorem lowr_tab : ∀ c : Fin 256, bits BinOp.or IntKind.u8 (c.1 : Int) 32 = if 97 ≤ c.1 ∧ c.1 ≤ 122 then (c.1 : Int) else if 65 ≤ c.1 ∧ c.1 ≤ 90 then (c.1 : Int) + 32 else bits BinOp.or IntKind.u8 (c.1 : Int) 32 := by decide +kernel
theorem lowr_no : ∀ c : Fin 256, ¬ (97 ≤ c.1 ∧ c.1 ≤ 122) → ¬ (65 ≤ c.1 ∧ c.1 ≤ 90) → bits BinOp.or IntKind.u8 (c.1 : Int) 32 < 97 ∨ 122 < bits BinOp.or IntKind.u8 (c.1 : Int) 32 := by decide +kernel
theorem lower_is (c : Nat) (v : Int) (h : bits BinOp.or IntKind.u8 (c : Int) 32 = v) (w : World) : Calls Tryd.prog 79 #[.int .u8 c] w fun e w' => e = .returned (.int .u8 v) ∧ w = w' := by
  go_enter Tryd.func79, Tryd.ntmps79
  go_wp2
  go_ret
  exact ⟨rfl, rfl⟩
set_option maxHeartbeats 32000000 in
theorem pu_walk (t : ByteArray) (hne : t.size ≠ 0) (hmax : t.size ≤ 9223372036854775806) (w : World) :
    Calls Tryd.prog 67 #[.string t, .int .i64 16, .int .i64 32] w fun e w' => e = .returned (puT (pu16 0 t.data.toList)) ∧ w' = Lib.bytesWorld w 5 t := by
  have hemp : t.toList.isEmpty = false := by
    rw [← decide_eq_emptyBytes]
    exact decide_eq_false (fun h => hne (by rw [h]; rfl))
  have hcv := Lib.run_convert_string_bytes (P := Tryd.prog) w 9 28 5 t (u := .string) Tryd.underlying9 Tryd.underlying28 Tryd.underlying5
  have hB : ∀ j, j < t.size → (Lib.bytesWorld w 5 t).cell? ⟨w.heap.size, j, none⟩ = some (.int .u8 (t.data.toList.getD j 0).toNat) := fun j hj => Lib.bytesWorld_cell w 5 t j hj
  obtain ⟨W1, hW1⟩ : ∃ W1, W1 = Lib.bytesWorld w 5 t := ⟨_, rfl⟩
  rw [← hW1] at hcv hB ⊢
  clear hW1
  obtain ⟨bs, hL⟩ : ∃ bs, bs = t.data.toList := ⟨_, rfl⟩
  have hLn : bs.length = t.size := by rw [hL, Lib.size_eq]
  rw [← hL] at hB ⊢
  clear hL
  have hmv : IntKind.u64.wrap (IntKind.u64.wrap 4294967296 - 1) = 4294967295 := by
    rw [IntKind.wrap_u64, IntKind.wrap_u64]
    decide
  go_enter Tryd.func67, Tryd.ntmps67
  go_wp2
  go_loop [12, 13, 101] (fun vu vn vi => ∃ (k acc : Nat) (a : Int), vu = .bool false ∧ vn = .int .u64 a ∧ vi = .int .i64 k ∧ k ≤ t.size ∧ Hid (a = (acc : Int) ∧ acc ≤ 4294967295 ∧ pu16 0 bs = pu16 acc (bs.drop k)))
    (fun _ _ vi => t.size - (intOf vi).toNat)
  case atStart => exact ⟨0, 0, 0, rfl, rfl, rfl, by omega, rfl, by omega, rfl⟩
  case round =>
    obtain ⟨k, acc, a, rfl, rfl, rfl, hk, hh⟩ := hrel
    obtain ⟨ha, hacc, hdec⟩ := hh.out
    clear hh
    have a0 : 0 ≤ a := by omega
    have a1 : a ≤ 4294967295 := by omega
    by_cases hkn : k < t.size
    · have hc := hB k hkn
      have hdrop : bs.drop k = bs[k]'(by omega) :: bs.drop (k + 1) := List.drop_eq_getElem_cons (by omega)
      have hget : bs.getD k 0 = bs[k]'(by omega) := by simp [List.getD, List.getElem?_eq_getElem (show k < bs.length by omega)]
      rw [hdrop] at hdec
      rw [hget] at hc
      generalize bs[k]'(by omega) = c at hc hdec
      have hc256 : c.toNat < 256 := c.toNat_lt
      have ht := lowr_tab ⟨c.toNat, hc256⟩
      have hn := lowr_no ⟨c.toNat, hc256⟩
      simp only at ht hn
      clear hB hdrop hget
      by_cases hdig : 48 ≤ c.toNat ∧ c.toNat ≤ 57
      · obtain ⟨hd0, hd1⟩ := hdig
        have hq : hv c = some (c.toNat - 48) := by unfold hv; rw [if_pos ⟨hd0, hd1⟩]
        by_cases hov : 4294967295 < acc * 16 + (c.toNat - 48)
        · have hF : pu16 acc (c :: bs.drop (k + 1)) = .over := by simp [pu16, hq, hov]
          rw [hF] at hdec
          have iov : 4294967295 < a * 16 + ((c.toNat : Int) - 48) := by omega
          clear hacc hF hov ha ht hn hq
          go_wp2
          go_ret2
          exact ⟨rfl, rfl⟩
        · have hF : pu16 acc (c :: bs.drop (k + 1)) = pu16 (acc * 16 + (c.toNat - 48)) (bs.drop (k + 1)) := by simp [pu16, hq, hov]
          have HN : Hid (a * 16 + ((c.toNat : Int) - 48) = ((acc * 16 + (c.toNat - 48) : Nat) : Int) ∧ acc * 16 + (c.toNat - 48) ≤ 4294967295 ∧ pu16 0 bs = pu16 (acc * 16 + (c.toNat - 48)) (bs.drop (k + 1))) := Lib.hid ⟨by omega, by omega, hdec.trans hF⟩
          have iov : a * 16 + ((c.toNat : Int) - 48) ≤ 4294967295 := by omega
          clear hacc hF hov hdec ha ht hn hq
          go_wp2
          refine ⟨⟨k + 1, acc * 16 + (c.toNat - 48), a * 16 + ((c.toNat : Int) - 48), rfl, (by first | rfl | (congr 1; omega)), (by first | rfl | (congr 1; omega)), by omega, HN⟩, by simp [intOf]; omega⟩
      · by_cases hlet : (97 ≤ c.toNat ∧ c.toNat ≤ 102) ∨ (65 ≤ c.toNat ∧ c.toNat ≤ 70)
        · -- a digit that is a letter
          obtain ⟨d, v, hd0, hd1, hdv, hq, hw⟩ : ∃ (d : Nat) (v : Int), 10 ≤ d ∧ d ≤ 15 ∧ v = (d : Int) + 87 ∧ hv c = some d ∧ bits BinOp.or IntKind.u8 (c.toNat : Int) 32 = v := by
            rcases hlet with h | h
            · refine ⟨c.toNat - 87, _, by omega, by omega, rfl, by unfold hv; rw [if_neg hdig, if_pos h], ?_⟩
              rw [if_pos (by omega)] at ht
              rw [ht]; omega
            · refine ⟨c.toNat - 55, _, by omega, by omega, rfl, by unfold hv; rw [if_neg hdig, if_neg (by omega), if_pos h], ?_⟩
              rw [if_neg (by omega), if_pos (by omega)] at ht
              rw [ht]; omega
          have L := Lib.hid (lower_is c.toNat v hw)
          have hno : (c.toNat : Int) < 48 ∨ 57 < (c.toNat : Int) := by omega
          have h95 : ((c.toNat : Int) == 95) = false := by rw [beq_eq_false_iff_ne]; omega
          have v0 : 97 ≤ v := by omega
          have v1 : v ≤ 102 := by omega
          clear hw ht hn hdig hlet
          by_cases hov : 4294967295 < acc * 16 + d
          · have hF : pu16 acc (c :: bs.drop (k + 1)) = .over := by simp [pu16, hq, hov]
            rw [hF] at hdec
            have iov : 4294967295 < a * 16 + (v - 97 + 10) := by omega
            clear hacc hF hov ha hq hdv hd0 hd1
            generalize c.toNat = n at *
            rcases hno with hno | hno
            all_goals
              go_wp2_with (go_at_call 79; refine (L.out _).mono ?_; rintro e w' ⟨rfl, rfl⟩)
              go_ret2
              first | exact ⟨rfl, rfl⟩ | exact ⟨by rw [hdec]; rfl, rfl⟩
          · have hF : pu16 acc (c :: bs.drop (k + 1)) = pu16 (acc * 16 + d) (bs.drop (k + 1)) := by simp [pu16, hq, hov]
            have HN : Hid (a * 16 + (v - 97 + 10) = ((acc * 16 + d : Nat) : Int) ∧ acc * 16 + d ≤ 4294967295 ∧ pu16 0 bs = pu16 (acc * 16 + d) (bs.drop (k + 1))) := Lib.hid ⟨by omega, by omega, hdec.trans hF⟩
            have iov : a * 16 + (v - 97 + 10) ≤ 4294967295 := by omega
            clear hacc hF hov hdec ha hq hdv hd0 hd1
            generalize c.toNat = n at *
            rcases hno with hno | hno
            all_goals
              go_wp2_with (go_at_call 79; refine (L.out _).mono ?_; rintro e w' ⟨rfl, rfl⟩)
              refine ⟨⟨k + 1, acc * 16 + d, a * 16 + (v - 97 + 10), rfl, (by first | rfl | (congr 1; omega)), (by first | rfl | (congr 1; omega)), by omega, HN⟩, by simp [intOf]; omega⟩
        · -- no digit
          have hq : hv c = none := by unfold hv; rw [if_neg hdig, if_neg (by omega), if_neg (by omega)]
          have hF : pu16 acc (c :: bs.drop (k + 1)) = .bad := by simp [pu16, hq]
          rw [hF] at hdec
          obtain ⟨v, hw⟩ : ∃ v, bits BinOp.or IntKind.u8 (c.toNat : Int) 32 = v := ⟨_, rfl⟩
          have v0 : 0 ≤ v := by rw [← hw]; exact bits_lo_u8 _ _ _
          have v1 : v ≤ 255 := by rw [← hw]; exact bits_hi_u8 _ _ _
          have hvv : v < 97 ∨ 102 < v := by
            by_cases h1 : 97 ≤ c.toNat ∧ c.toNat ≤ 122
            · rw [if_pos h1] at ht; omega
            · by_cases h2 : 65 ≤ c.toNat ∧ c.toNat ≤ 90
              · rw [if_neg h1, if_pos h2] at ht; omega
              · have := hn h1 h2; omega
          have L := Lib.hid (lower_is c.toNat v hw)
          have hno : (c.toNat : Int) < 48 ∨ 57 < (c.toNat : Int) := by omega
          clear hw ht hn hdig hlet hq hacc hF ha
          generalize c.toNat = n at *
          by_cases h95 : n = 95
          · subst h95
            rcases hvv with hvv | hvv
            all_goals
              go_wp2_with (go_at_call 79; refine (L.out _).mono ?_; rintro e w' ⟨rfl, rfl⟩)
            all_goals go_ret2
            all_goals first | exact ⟨rfl, rfl⟩ | exact ⟨by rw [hdec]; rfl, rfl⟩
          · have h95' : ((n : Int) == 95) = false := by rw [beq_eq_false_iff_ne]; omega
            clear h95
            rcases hno with hno | hno <;> rcases hvv with hvv | hvv
            all_goals
              go_wp2_with (go_at_call 79; refine (L.out _).mono ?_; rintro e w' ⟨rfl, rfl⟩)
            all_goals go_ret2
            all_goals first | exact ⟨rfl, rfl⟩ | exact ⟨by rw [hdec]; rfl, rfl⟩
    · have hkk : k = t.size := by omega
      subst hkk
      have hF : pu16 acc (bs.drop t.size) = .good acc := by rw [List.drop_eq_nil_of_le (by omega)]; rfl
      rw [hF] at hdec
      subst ha
      clear hacc hF a0 a1
      go_wp2
      go_ret2
      exact ⟨rfl, rfl⟩
end Go.Proofs.YtdbcblfinflieaaDoor
