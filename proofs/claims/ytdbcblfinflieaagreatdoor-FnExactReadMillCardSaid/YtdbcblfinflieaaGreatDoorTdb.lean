/-
  A number with a text of one to nine digits: the model's reader.
-/
import Derived.Test.YtdbcblfinflieaaGreatDoorTda
namespace Go.Proofs.YtdbcblfinflieaaGreatDoor
open Go.RowKit Go.ChangeShapes Go.WideShapes Go.Deep
attribute [local go_sem ↓] Go.wp_at_zero Go.wp_at_succ
set_option linter.unusedVariables false
set_option linter.unusedSimpArgs false
set_option maxRecDepth 100000
def nmV (r : Option Nat) : Nat := r.getD 0
theorem rdd_bound : ∀ (l : List UInt8) (acc v : Nat), rdd acc l = some v → acc ≤ v
  | [], acc, v, h => by simp only [rdd, Option.some.injEq] at h; omega
  | c :: r, acc, v, h => by
    simp only [rdd] at h
    split at h
    · have := rdd_bound r _ v h; omega
    · cases h
set_option maxHeartbeats 4000000 in
theorem number_any (t : ByteArray) (w : World) : Calls Tryz.prog 8 #[.string t] w fun e w' => e = .returned (.tuple #[.int .i64 (nmV (nmb t.data.toList)), .bool (nmb t.data.toList).isSome]) ∧ w = w' := by
  obtain ⟨l, hl⟩ : ∃ l, l = t.data.toList := ⟨_, rfl⟩
  have hsz : t.size = l.length := by rw [hl]; exact Lib.size_eq t
  have hat := fun k c h => run_at 9 Tryz.underlying9 t k c h
  have hat0 : ∀ c, t.data.toList[0]? = some c → ∀ W, (Instr.index 9 (.string t) (.int .i64 0)).run Tryz.prog W = .ok (.int .u8 c.toNat) W := fun c h W => run_at 9 Tryz.underlying9 t 0 c h W
  rw [← hl] at hat hat0 ⊢
  have Hat := Lib.hid hat
  by_cases hs : l.length < 1
  · have hr : nmb l = none := by unfold nmb; rw [if_pos (.inl hs)]
    have HR := Lib.hid hr
    rw [HR.out]
    have hz : (t.size : Int) < 1 := by omega
    clear hat hat0 hl hr hsz
    go_enter Tryz.func8, Tryz.ntmps8
    go_wp2
    go_ret2
    exact ⟨rfl, rfl⟩
  · by_cases hb : 9 < l.length
    · have hr : nmb l = none := by unfold nmb; rw [if_pos (.inr (.inl hb))]
      have HR := Lib.hid hr
      rw [HR.out]
      have hz : 9 < (t.size : Int) := by omega
      have hz1 : 1 ≤ (t.size : Int) := by omega
      clear hat hat0 hl hr hsz
      go_enter Tryz.func8, Tryz.ntmps8
      go_wp2
      go_ret2
      exact ⟨rfl, rfl⟩
    · obtain ⟨c0, r0, hc0⟩ : ∃ c r, l = c :: r := by
        cases l with
        | nil => exact absurd (Nat.zero_lt_one) hs
        | cons c r => exact ⟨c, r, rfl⟩
      have hx0 := hat0 c0 (by rw [hc0]; rfl)
      have z1 : 1 ≤ (t.size : Int) := by omega
      have z9 : (t.size : Int) ≤ 9 := by omega
      by_cases h48 : c0.toNat = 48 ∧ 1 < l.length
      · have hr : nmb l = none := by
          unfold nmb
          rw [if_pos (.inr (.inr ⟨by rw [hc0]; show some c0 = some 48; rw [show c0 = 48 from UInt8.toNat_inj.1 h48.1], h48.2⟩))]
        have HR := Lib.hid hr
        rw [HR.out]
        have z2 : 1 < (t.size : Int) := by omega
        have hq : ((c0.toNat : Int) == 48) = true := by rw [h48.1]; rfl
        clear hat hat0 hl hr h48 hc0 hsz
        go_enter Tryz.func8, Tryz.ntmps8
        go_wp2
        go_ret2
        exact ⟨rfl, rfl⟩
      · have hr : nmb l = rdd 0 l := by
          unfold nmb
          rw [if_neg]
          rintro (h | h | ⟨h, h'⟩)
          · exact hs h
          · exact hb h
          · refine h48 ⟨?_, h'⟩
            rw [hc0] at h
            injection h with h
            rw [h]; rfl
        have HR := Lib.hid hr
        have Hsz := Lib.hid hsz
        have hcase : ((c0.toNat : Int) == 48) = false ∨ (((c0.toNat : Int) == 48) = true ∧ (t.size : Int) ≤ 1) := by
          by_cases h : c0.toNat = 48
          · right
            refine ⟨by rw [h]; rfl, ?_⟩
            have : ¬ 1 < l.length := fun h' => h48 ⟨h, h'⟩
            omega
          · left
            rw [beq_eq_false_iff_ne]; omega
        clear hat hat0 hl hr h48 hc0 hs hb hsz
        rcases hcase with hq | ⟨hq, z3⟩
        all_goals
          go_enter Tryz.func8, Tryz.ntmps8
          go_wp2
          go_loop [4, 5] (fun vb vi => ∃ (acc k : Nat), vb = .int .i64 acc ∧ vi = .int .i64 k ∧ (k : Int) ≤ t.size ∧ Hid (acc < 10 ^ k ∧ rdd 0 l = rdd acc (l.drop k))) (fun _ vi => 9 - (intOf vi).toNat)
          case atStart => exact ⟨0, 0, rfl, rfl, by omega, by simp, rfl⟩
          case round =>
            obtain ⟨acc, k, rfl, rfl, hk, hh⟩ := hrel
            obtain ⟨hacc, hdec⟩ := hh.out
            clear hh
            by_cases hlt : k < t.size
            · have hb : acc * 10 + 9 < 10000000000 := by
                have h1 : 10 ^ (k + 1) ≤ 10 ^ 9 := Nat.pow_le_pow_right (by decide) (by omega)
                rw [Nat.pow_succ] at h1
                have h2 : (10 : Nat) ^ 9 = 1000000000 := by decide
                omega
              have hpw : ∀ d, d < 10 → acc * 10 + d < 10 ^ (k + 1) := fun d hd => by rw [Nat.pow_succ]; omega
              have hkl : k < l.length := by rw [← Hsz.out]; exact hlt
              have hdrop : l.drop k = l[k] :: l.drop (k + 1) := List.drop_eq_getElem_cons hkl
              have hi := Hat.out k l[k] (List.getElem?_eq_getElem hkl)
              rw [hdrop] at hdec
              generalize l[k] = c at hdec hi
              have hc256 : c.toNat < 256 := c.toNat_lt
              have hlti : (k : Int) < t.size := by omega
              clear hdrop hkl
              have a1 : (acc : Int) * 10 ≤ 9999999990 := by omega
              have a2 : (acc : Int) ≤ 999999999 := by omega
              by_cases hdig : 48 ≤ c.toNat ∧ c.toNat ≤ 57
              · have HN : Hid (acc * 10 + (c.toNat - 48) < 10 ^ (k + 1) ∧ rdd 0 l = rdd (acc * 10 + (c.toNat - 48)) (l.drop (k + 1))) := Lib.hid ⟨hpw _ (by omega), by rw [hdec, rdd, if_pos hdig]⟩
                obtain ⟨hd0, hd1⟩ := hdig
                clear hdec hpw hacc hb
                generalize c.toNat = n at *
                go_wp2
                exact ⟨⟨acc * 10 + (n - 48), k + 1, by first | rfl | (congr 1; omega), by first | rfl | (congr 1; omega), by omega, HN⟩, by simp [intOf]; omega⟩
              · have hr : nmb l = none := by
                  rw [HR.out, hdec, rdd, if_neg hdig]
                have HR2 := Lib.hid hr
                have hno : (c.toNat : Int) < 48 ∨ 57 < (c.toNat : Int) := by omega
                clear hdec hpw hacc hb hdig hr
                generalize c.toNat = n at *
                rcases hno with hno | hno
                all_goals
                  go_wp2
                  go_ret2
                  exact ⟨by rw [HR2.out]; rfl, rfl⟩
            · have hd8 : l.drop k = [] := List.drop_eq_nil_of_le (by rw [← Hsz.out]; omega)
              rw [hd8] at hdec
              have hr : nmb l = some acc := by rw [HR.out, hdec]; rfl
              have HR2 := Lib.hid hr
              have hlti : ¬ ((k : Int) < t.size) := by omega
              clear hd8 hdec hacc hr
              go_wp2
              go_ret2
              exact ⟨by rw [HR2.out]; rfl, rfl⟩
end Go.Proofs.YtdbcblfinflieaaGreatDoor
