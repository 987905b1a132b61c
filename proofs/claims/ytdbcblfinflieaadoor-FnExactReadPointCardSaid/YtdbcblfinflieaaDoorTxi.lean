/-
  Numbers read from their texts: the program's ReadNumber, the model's.
-/
import Derived.Test.YtdbcblfinflieaaDoorTxh
namespace Go.Proofs.YtdbcblfinflieaaDoor
open Go.RowKit Go.ChangeShapes Go.WideShapes Go.Deep
attribute [local go_sem ↓] Go.wp_at_zero Go.wp_at_succ
attribute [local go_sem] from_call bits_callB
set_option linter.unusedVariables false
set_option linter.unusedSimpArgs false
set_option maxRecDepth 100000
def rnV (r : Option Nat) : Nat := r.getD 0
def rnK (r : Option Nat) : Int := if r.isSome then 0 else 5
theorem beq_bs (l : List UInt8) (t : ByteArray) : ((bsOf l).toList == t.toList) = decide (l = t.data.toList) := by
  rw [bsOf_toList, Lib.toList_data]
  by_cases h : l = t.data.toList
  · rw [decide_eq_true h]; simpa using h
  · rw [decide_eq_false h]; simpa using h
set_option maxHeartbeats 4000000 in
theorem readNum_any (t : ByteArray) (hmax : t.size ≤ 281474976710656) (w : World) (hT : TbAt w) (hE : TeAt w) :
    Calls Tryd.prog 48 #[.string t] w (RV (.tuple #[.float .f32 (rnV (rdN t.data.toList)), .int .i64 (rnK (rdN t.data.toList))]) w) := by
  have HT := Lib.hid hT
  have HE := Lib.hid hE
  clear hT hE
  rw [← rdI_eq]
  by_cases hp : ∃ v, pu t.data.toList = .good v
  · obtain ⟨v, hp⟩ := hp
    have hv := pu_lt hp
    have H := Lib.hid (pu_ok t hmax v hp w)
    have v0 : (v : Int) ≤ 4294967295 := by omega
    obtain ⟨T, hTT⟩ : ∃ T, T = bsOf (hex8 (cn v)) := ⟨_, rfl⟩
    by_cases he : hex8 (cn v) = t.data.toList
    · have hr : rdI t.data.toList = some v := by unfold rdI; rw [hp]; simp only; rw [if_pos he]
      have hq : (T.toList == t.toList) = true := by rw [hTT, beq_bs]; exact decide_eq_true he
      have HR := Lib.hid hr; have HTT := Lib.hid hTT
      rw [HR.out]
      clear hp hr hTT he
      go_enter Tryd.func48, Tryd.ntmps48
      go_wp2_with fail
      refine H.out.mono ?_
      rintro e w1 ⟨rfl, b1⟩
      have B1 := Lib.hid b1
      have HT1 := Lib.hid (HT.out.below b1)
      clear b1
      go_wp2_with fail
      refine (numText_any v hv w1 HT1.out).mono ?_
      rintro e w2 ⟨rfl, b2⟩
      rw [← HTT.out]
      have B2 := Lib.hid (b_then B1.out b2)
      clear b2
      go_wp2
      go_ret2
      exact ⟨rfl, B2.out⟩
    · have hr : rdI t.data.toList = none := by unfold rdI; rw [hp]; simp only; rw [if_neg he]
      have hq : (T.toList == t.toList) = false := by rw [hTT, beq_bs]; exact decide_eq_false he
      have HR := Lib.hid hr; have HTT := Lib.hid hTT
      rw [HR.out]
      clear hp hr hTT he
      go_enter Tryd.func48, Tryd.ntmps48
      go_wp2_with fail
      refine H.out.mono ?_
      rintro e w1 ⟨rfl, b1⟩
      have B1 := Lib.hid b1
      have HT1 := Lib.hid (HT.out.below b1)
      clear b1
      go_wp2_with fail
      refine (numText_any v hv w1 HT1.out).mono ?_
      rintro e w2 ⟨rfl, b2⟩
      rw [← HTT.out]
      have B2 := Lib.hid (b_then B1.out b2)
      clear b2
      go_wp2
      go_ret2
      exact ⟨rfl, B2.out⟩
  · have hp' : ∀ v, pu t.data.toList ≠ .good v := fun v h => hp ⟨v, h⟩
    have hr : rdI t.data.toList = none := by
      unfold rdI
      cases h : pu t.data.toList with
      | good v => exact absurd h (hp' v)
      | bad => rfl
      | over => rfl
    have H := Lib.hid (pu_no t hmax hp' w HE.out)
    have HR := Lib.hid hr
    rw [HR.out]
    clear hp hp' hr
    go_enter Tryd.func48, Tryd.ntmps48
    go_wp2_with fail
    refine H.out.mono ?_
    rintro e w1 ⟨⟨x, M, rfl⟩, b1⟩
    have B1 := Lib.hid b1
    clear b1
    go_wp2
    go_ret2
    exact ⟨rfl, B1.out⟩
theorem run_at (t : TypeId) (ht : Tryd.prog.underlying t = some .string) (s : ByteArray) (k : Nat) (c : UInt8) (h : s.data.toList[k]? = some c) (W : World) : (Instr.index t (.string s) (.int .i64 k)).run Tryd.prog W = .ok (.int .u8 c.toNat) W := by
  have h1 := run_index_string (P := Tryd.prog) W t s .i64 k ht
  have hk : k < s.size := by
    rw [Lib.size_eq]
    exact (List.getElem?_eq_some_iff.1 h).1
  rw [dif_pos ⟨by omega, by omega⟩] at h1
  rw [h1]
  have e : s[((k : Int)).toNat]'(by omega) = c := by
    obtain ⟨h2, h3⟩ := List.getElem?_eq_some_iff.1 h
    rw [← h3]
    rfl
  rw [e]
set_option maxHeartbeats 4000000 in
theorem l01Read_any (t : ByteArray) (w : World) : Calls Tryd.prog 21 #[.string t] w fun e w' => (∃ x, e = .returned (.tuple #[.float .f32 x, .bool (rdN t.data.toList).isSome]) ∧ ∀ v, rdN t.data.toList = some v → x = v) ∧ w = w' := by
  by_cases h8 : t.size = 8
  · have hl8 : t.data.toList.length = 8 := by rw [← Lib.size_eq]; exact h8
    obtain ⟨l, hl⟩ : ∃ l, l = t.data.toList := ⟨_, rfl⟩
    have hat := fun k c h => run_at 9 Tryd.underlying9 t k c h
    rw [← hl] at hl8 hat ⊢
    have h8' : (t.size : Int) = 8 := by omega
    have Hat := Lib.hid hat
    have Hl8 := Lib.hid hl8
    clear hl hl8 hat h8
    go_enter Tryd.func21, Tryd.ntmps21
    go_wp2
    clear h8'
    go_loop [4, 5] (fun vb vi => ∃ (acc k : Nat), vb = .int .u32 acc ∧ vi = .int .i64 k ∧ k ≤ 8 ∧ Hid (acc < 16 ^ k ∧ rdh 0 l = rdh acc (l.drop k))) (fun _ vi => 8 - (intOf vi).toNat)
    case atStart => exact ⟨0, 0, rfl, rfl, by omega, by simp, rfl⟩
    case round =>
      obtain ⟨acc, k, rfl, rfl, hk, hh⟩ := hrel
      obtain ⟨hacc, hdec⟩ := hh.out
      clear hh
      by_cases hlt : k < 8
      · have hb : acc * 16 + 15 < 4294967296 := by
          have h1 : 16 ^ (k + 1) ≤ 16 ^ 8 := Nat.pow_le_pow_right (by decide) (by omega)
          rw [Nat.pow_succ] at h1
          have h2 : (16 : Nat) ^ 8 = 4294967296 := by decide
          omega
        have hpw : ∀ d, d < 16 → acc * 16 + d < 16 ^ (k + 1) := fun d hd => by rw [Nat.pow_succ]; omega
        have hkl : k < l.length := by rw [Hl8.out]; exact hlt
        have hdrop : l.drop k = l[k] :: l.drop (k + 1) := List.drop_eq_getElem_cons hkl
        have hi := Hat.out k l[k] (List.getElem?_eq_getElem hkl)
        rw [hdrop] at hdec
        generalize l[k] = c at hdec hi
        have hc256 : c.toNat < 256 := c.toNat_lt
        clear hdrop hkl
        have a1 : (acc : Int) * 16 ≤ 4294967280 := by omega
        have a2 : (acc : Int) ≤ 268435455 := by omega
        by_cases hdig : 48 ≤ c.toNat ∧ c.toNat ≤ 57
        · have HN : Hid (acc * 16 + (c.toNat - 48) < 16 ^ (k + 1) ∧ rdh 0 l = rdh (acc * 16 + (c.toNat - 48)) (l.drop (k + 1))) := Lib.hid ⟨hpw _ (by omega), by rw [hdec, rdh, if_pos hdig]⟩
          obtain ⟨hd0, hd1⟩ := hdig
          clear hdec hpw hacc hb
          generalize c.toNat = n at *
          go_wp2
          exact ⟨⟨acc * 16 + (n - 48), k + 1, by first | rfl | (congr 1; omega), by first | rfl | (congr 1; omega), by omega, HN⟩, by simp [intOf]; omega⟩
        · by_cases hlet : 97 ≤ c.toNat ∧ c.toNat ≤ 102
          · have HN : Hid (acc * 16 + (c.toNat - 87) < 16 ^ (k + 1) ∧ rdh 0 l = rdh (acc * 16 + (c.toNat - 87)) (l.drop (k + 1))) := Lib.hid ⟨hpw _ (by omega), by rw [hdec, rdh, if_neg hdig, if_pos hlet]⟩
            obtain ⟨hd0, hd1⟩ := hlet
            clear hdec hpw hacc hb hdig
            generalize c.toNat = n at *
            go_wp2
            exact ⟨⟨acc * 16 + (n - 87), k + 1, by first | rfl | (congr 1; omega), by first | rfl | (congr 1; omega), by omega, HN⟩, by simp [intOf]; omega⟩
          · have hr : rdN l = none := by
              unfold rdN
              rw [if_pos Hl8.out, hdec, rdh, if_neg hdig, if_neg hlet]
            have HR := Lib.hid hr
            have hno : (c.toNat : Int) < 48 ∨ (57 < (c.toNat : Int) ∧ (c.toNat : Int) < 97) ∨ 102 < (c.toNat : Int) := by omega
            clear hdec hpw hacc hb hdig hlet hr
            generalize c.toNat = n at *
            rcases hno with hno | ⟨hno, hno2⟩ | hno
            all_goals
              go_wp2
              go_ret2
              exact ⟨⟨_, by rw [HR.out]; rfl, fun v h => by rw [HR.out] at h; cases h⟩, rfl⟩
      · obtain rfl : k = 8 := by omega
        have hd8 : l.drop 8 = [] := List.drop_eq_nil_of_le (by rw [Hl8.out]; exact Nat.le_refl _)
        rw [hd8] at hdec
        have hacc32 : acc < 4294967296 := by simpa using hacc
        have a1 : (acc : Int) < 4294967296 := by omega
        by_cases hcn : cn acc = acc
        · have hr : rdN l = some acc := by
            unfold rdN
            rw [if_pos Hl8.out, hdec]
            simp [rdh, hcn]
          have HR := Lib.hid hr
          have L := Lib.hid (l01Bits_any acc w)
          rw [hcn] at L
          clear hd8 hdec hacc hr hcn
          go_wp2_with fail
          refine L.out.mono ?_
          rintro e w1 ⟨rfl, rfl⟩
          go_wp2
          go_ret2
          exact ⟨⟨acc, by rw [HR.out]; rfl, fun v h => by rw [HR.out] at h; injection h⟩, rfl⟩
        · have hr : rdN l = none := by
            unfold rdN
            rw [if_pos Hl8.out, hdec]
            simp [rdh, hcn]
          have HR := Lib.hid hr
          have L := Lib.hid (l01Bits_any acc w)
          have hne : ((cn acc : Nat) : Int) ≠ (acc : Int) := by omega
          generalize cn acc = z at *
          have hb : ((z : Int) == (acc : Int)) = false := beq_eq_false_iff_ne.2 hne
          clear hd8 hdec hacc hr hcn hne
          go_wp2_with fail
          refine L.out.mono ?_
          rintro e w1 ⟨rfl, rfl⟩
          go_wp2
          go_ret2
          exact ⟨⟨acc, by rw [HR.out]; rfl, fun v h => by rw [HR.out] at h; cases h⟩, rfl⟩
  · have hr : rdN t.data.toList = none := by
      unfold rdN
      rw [if_neg (by rw [← Lib.size_eq]; exact h8)]
    have HR := Lib.hid hr
    rw [HR.out]
    have h8' : ((t.size : Int) == 8) = false := by rw [beq_eq_false_iff_ne]; omega
    clear hr h8
    go_enter Tryd.func21, Tryd.ntmps21
    go_wp2
    go_ret2
    exact ⟨⟨_, rfl, fun v h => by cases h⟩, rfl⟩
end Go.Proofs.YtdbcblfinflieaaDoor
