/-
  A mill read from its text: what both readers make of it.
-/
import Derived.Test.YtdbcblfinflieaaGreatDoorMta
namespace Go.Proofs.YtdbcblfinflieaaGreatDoor
open Go.RowKit Go.ChangeShapes Go.WideShapes Go.Deep
attribute [local go_sem ↓] Go.wp_at_zero Go.wp_at_succ
set_option linter.unusedVariables false
set_option linter.unusedSimpArgs false
set_option maxRecDepth 100000
def i16V (l : List UInt8) : Option Int := match Lib.parseIntB 16 l with | .ok v => some v | _ => none
/-- What the library's ParseInt makes of a text, at sixteen bits. -/
def PI16 (l : List UInt8) (w : World) (e : Ending) (w' : World) : Prop := (match i16V l with | some v => e = .returned (.tuple #[.int .i64 v, .nilIface]) | none => ∃ (x : Int) (N : Nat), e = .returned (.tuple #[.int .i64 x, .iface 73 (.pointer (some ⟨N, 0, none⟩))])) ∧ Below w.heap.size w w'
theorem parseInt16_any (t : ByteArray) (hmax : t.size ≤ 281474976710656) (w : World) (hE : TeAt w) : Calls Tryz.prog 19 #[.string t, .int .i64 10, .int .i64 16] w (PI16 t.data.toList w) := by
  unfold PI16 i16V
  obtain ⟨⟨t1, p1, h1⟩, t2, p2, h2⟩ := hE
  cases h : Lib.parseIntB 16 t.data.toList
  · rename_i v
    refine (Tryz.strconv_ParseInt_10_at16_ok t (by omega) v h w).mono ?_
    rintro e w' ⟨rfl, rfl | ⟨s, rfl⟩⟩
    · exact ⟨rfl, Below.refl _ _⟩
    · exact ⟨rfl, Lib.bytesWorld_below _ _ _⟩
  · refine (Any.strconv_ParseInt_10_at16_syntax Tryz.laysC174 t hmax h _ w h1 (.inr ⟨t1, p1, rfl⟩)).mono ?_
    rintro e w' ⟨N, rfl, _, _, b⟩
    exact ⟨⟨_, _, rfl⟩, b⟩
  · refine (Any.strconv_ParseInt_10_at16_range Tryz.laysC174 t hmax h _ w h2 (.inr ⟨t2, p2, rfl⟩)).mono ?_
    rintro e w' ⟨N, rfl, _, _, b⟩
    exact ⟨⟨_, _, rfl⟩, b⟩
theorem i16V_dec {u : Nat} (h : u < 32768) : i16V (Lib.decDigits u) = some (u : Int) := by
  unfold i16V
  rw [pI_dec 16 u (by omega) (by omega) (by simpa using h)]
theorem parseB16_range {l : List UInt8} {v : Int} (h : Lib.parseIntB 16 l = .ok v) : -32768 ≤ v ∧ v < 32768 := by
  unfold Lib.parseIntB at h
  split at h
  · cases h
  · simp only at h
    split at h
    · cases h
    · cases h
    · rename_i u hu
      split at h
      · cases h
      · split at h
        · cases h
        · rename_i h1 h2
          injection h with h
          subst h
          simp at h1 h2
          split <;> omega
theorem i16V_range {l : List UInt8} {v : Int} (h : i16V l = some v) : -32768 ≤ v ∧ v ≤ 32767 := by
  unfold i16V at h
  split at h
  · rename_i v' h'
    injection h with h
    subst h
    have := parseB16_range h'
    omega
  · cases h
def mkM (v : List Nat) (s : Int) : Ml := ⟨s, v.getD 0 0, v.getD 1 0⟩
/-- A mill out of its three words. -/
def rmW (ws : List (List UInt8)) : Option Ml := if ws.length = 3 then (if okAll (ws.drop 1) then (match nmb (ws.getD 0 []) with | some n => if n ≤ 48 ∧ okM (mkM (rdV (ws.drop 1)) (n : Int)) = true then some (mkM (rdV (ws.drop 1)) (n : Int)) else none | none => none) else none) else none
def rmS (l : List UInt8) : Option Ml := rmW (spl 58 l)
theorem rmW3 (a b c : List UInt8) : rmW [a, b, c] = if okAll [b, c] then (match nmb a with | some n => if n ≤ 48 ∧ okM (mkM (rdV [b, c]) (n : Int)) = true then some (mkM (rdV [b, c]) (n : Int)) else none | none => none) else none := by
  unfold rmW
  rw [if_pos (show [a, b, c].length = 3 from rfl)]
  rfl
theorem dig_cleanM (n : Nat) : (58 : UInt8) ∉ Lib.decDigits n := fun h => by
  have := dec_digit n 58 h
  simp at this
/-- The program writes what it has read, and looks whether it is the same text. -/
theorem rm_text {l a b c : List UInt8} (hs : spl 58 l = [a, b, c]) (hok : okAll [b, c] = true) :
    rmS l = (match i16V a with | some v => if textM (mkM (rdV [b, c]) v) = l then some (mkM (rdV [b, c]) v) else none | none => none) := by
  have hl := spl_join 58 l
  have hc := spl_clean 58 l
  unfold rmS
  rw [hs] at hl hc ⊢
  rw [rmW3, if_pos hok]
  have hoka : ∀ x ∈ [b, c], (rdN x).isSome = true := fun x hx => by
    unfold okAll at hok
    exact List.all_eq_true.1 hok x hx
  have eb := (rdN_some (hoka b (by simp))).2
  have ec := (rdN_some (hoka c (by simp))).2
  have et : ∀ v, txM (mkM (rdV [b, c]) v) = [Lib.decDigits v.toNat, b, c] := fun v => by
    show [Lib.decDigits v.toNat, hex8 (cn (rnV (rdN b))), hex8 (cn (rnV (rdN c)))] = _
    rw [eb, ec]
  have key : ∀ v, textM (mkM (rdV [b, c]) v) = l ↔ (okM (mkM (rdV [b, c]) v) = true ∧ Lib.decDigits v.toNat = a) := fun v => by
    unfold textM
    rw [et]
    constructor
    · intro h
      split at h
      · rename_i hk
        refine ⟨hk, ?_⟩
        have h1 := spl_of_join 58 [Lib.decDigits v.toNat, b, c] (by simp) (fun x hx => by
          rcases List.mem_cons.1 hx with rfl | hx
          · exact dig_cleanM _
          · rcases List.mem_cons.1 hx with rfl | hx
            · exact hc _ (by simp)
            · simp at hx
              subst hx
              exact hc _ (by simp))
        rw [h, hs] at h1
        simp at h1
        exact h1.symm
      · rw [← h] at hs
        simp [spl] at hs
    · rintro ⟨hk, h⟩
      rw [if_pos hk, h, hl]
  cases hn : nmb a with
  | some n =>
    have hd := nmb_inv hn
    simp only
    by_cases h1 : n ≤ 48
    · have hv : i16V a = some (n : Int) := by rw [← hd]; exact i16V_dec (by omega)
      rw [hv]
      simp only
      by_cases hk : okM (mkM (rdV [b, c]) (n : Int)) = true
      · rw [if_pos ⟨h1, hk⟩, if_pos ((key _).2 ⟨hk, by rw [Int.toNat_natCast]; exact hd⟩)]
      · rw [if_neg (fun h => hk h.2), if_neg (fun h => hk ((key _).1 h).1)]
    · rw [if_neg (fun h => h1 h.1)]
      cases hv : i16V a with
      | none => rfl
      | some v =>
        simp only
        rw [if_neg]
        intro h
        obtain ⟨hk, h2⟩ := (key _).1 h
        obtain ⟨m, hm, hm1⟩ := okM_nat hk
        have hm' : v = (m : Int) := hm
        subst hm'
        rw [Int.toNat_natCast] at h2
        rw [← h2, nmb_dec (by omega)] at hn
        injection hn with hn
        omega
  | none =>
    cases hv : i16V a with
    | none => rfl
    | some v =>
      simp only
      rw [if_neg]
      intro h
      obtain ⟨hk, h2⟩ := (key _).1 h
      obtain ⟨m, hm, hm1⟩ := okM_nat hk
      have hm' : v = (m : Int) := hm
      subst hm'
      rw [Int.toNat_natCast] at h2
      rw [← h2, nmb_dec (by omega)] at hn
      cases hn
theorem rm_len (l : List UInt8) (h : (Lib.splitN l [58] 4).length = 3) : Lib.splitN l [58] 4 = spl 58 l := by
  by_cases h6 : (spl 58 l).length ≤ 4
  · exact splitN_few 58 4 l (by decide) h6
  · have := (splitN_many 58 4 l (by decide) (by omega)).1
    omega
theorem rm_nolen (l : List UInt8) (h : ¬ (Lib.splitN l [58] 4).length = 3) : rmS l = none := by
  unfold rmS rmW
  rw [if_neg]
  intro h5
  exact h (by rw [splitN_few 58 4 l (by decide) (by omega)]; exact h5)
end Go.Proofs.YtdbcblfinflieaaGreatDoor
