/-
  A box read from its text: what both readers make of it; an integer of sixteen bits read by the library.
-/
import Derived.Test.YtkkcihgnpephiaaDoorTza
namespace Go.Proofs.YtkkcihgnpephiaaDoor
open Go.RowKit Go.ChangeShapes Go.WideShapes Go.Deep
attribute [local go_sem ↓] Go.wp_at_zero Go.wp_at_succ
set_option linter.unusedVariables false
set_option linter.unusedSimpArgs false
set_option maxRecDepth 100000
def i16V (l : List UInt8) : Option Int := match Lib.parseIntB 16 l with | .ok v => some v | _ => none
/-- What the library's ParseInt makes of a text, at sixteen bits. -/
def PI16 (l : List UInt8) (w : World) (e : Ending) (w' : World) : Prop := (match i16V l with | some v => e = .returned (.tuple #[.int .i64 v, .nilIface]) | none => ∃ (x : Int) (N : Nat), e = .returned (.tuple #[.int .i64 x, .iface 157 (.pointer (some ⟨N, 0, none⟩))])) ∧ Below w.heap.size w w'
theorem parseInt16_any (t : ByteArray) (hmax : t.size ≤ 281474976710656) (w : World) (hE : TeAt w) : Calls Tryd.prog 85 #[.string t, .int .i64 10, .int .i64 16] w (PI16 t.data.toList w) := by
  unfold PI16 i16V
  obtain ⟨⟨t1, p1, h1⟩, t2, p2, h2⟩ := hE
  cases h : Lib.parseIntB 16 t.data.toList
  · rename_i v
    refine (Tryd.strconv_ParseInt_10_at16_ok t (by omega) v h w).mono ?_
    rintro e w' ⟨rfl, rfl | ⟨s, rfl⟩⟩
    · exact ⟨rfl, Below.refl _ _⟩
    · exact ⟨rfl, Lib.bytesWorld_below _ _ _⟩
  · refine (Any.strconv_ParseInt_10_at16_syntax Tryd.laysC174 t hmax h _ w h1 (.inr ⟨t1, p1, rfl⟩)).mono ?_
    rintro e w' ⟨N, rfl, _, _, b⟩
    exact ⟨⟨_, _, rfl⟩, b⟩
  · refine (Any.strconv_ParseInt_10_at16_range Tryd.laysC174 t hmax h _ w h2 (.inr ⟨t2, p2, rfl⟩)).mono ?_
    rintro e w' ⟨N, rfl, _, _, b⟩
    exact ⟨⟨_, _, rfl⟩, b⟩
theorem i16V_dec {u : Nat} (h : u < 32768) : i16V (Lib.decDigits u) = some (u : Int) := by
  unfold i16V
  rw [pI_dec 16 u (by omega) (by omega) (by simpa using h)]
theorem parseB16_range {l : List UInt8} {v : Int} (h : Lib.parseIntB 16 l = .ok v) : -32768 ≤ v ∧ v < 32768 := by
  unfold Lib.parseIntB at h
  split at h
  · cases h
  · simp only at h
    split at h
    · cases h
    · cases h
    · rename_i u hu
      split at h
      · cases h
      · split at h
        · cases h
        · rename_i h1 h2
          injection h with h
          subst h
          simp at h1 h2
          split <;> omega
theorem i16V_range {l : List UInt8} {v : Int} (h : i16V l = some v) : -32768 ≤ v ∧ v ≤ 32767 := by
  unfold i16V at h
  split at h
  · rename_i v' h'
    injection h with h
    subst h
    have := parseB16_range h'
    omega
  · cases h
theorem i16V_nil : i16V [] = none := rfl
def tooth200 (x : List UInt8) : Bool := match nmb x with | some n => decide (n ≤ 200) | none => false
def okW (ws : List (List UInt8)) : Bool := ws.all tooth200
def zsOf (ws : List (List UInt8)) : List Int := ws.map fun x => ((nmV (nmb x) : Nat) : Int)
def rzW (ws : List (List UInt8)) : Option (List Int) := if okW ws && okZ (zsOf ws) then some (zsOf ws) else none
def rzS (l : List UInt8) : Option (List Int) := rzW (spl 32 l)
def okP (ps : List (List UInt8)) : Bool := ps.all fun x => (i16V x).isSome
def zpOf (ps : List (List UInt8)) : List Int := ps.map fun x => (i16V x).getD 0
theorem tooth200_dec {x : List UInt8} (h : tooth200 x = true) : ∃ m, m ≤ 200 ∧ nmb x = some m ∧ Lib.decDigits m = x := by
  unfold tooth200 at h
  split at h
  · rename_i n hn
    exact ⟨n, of_decide_eq_true h, hn, nmb_inv hn⟩
  · cases h
theorem dig_space (n : Nat) : (32 : UInt8) ∉ Lib.decDigits n := fun h => by
  have := dec_digit n 32 h
  simp at this
theorem words_same : ∀ ws : List (List UInt8), okW ws = true → okP ws = true ∧ zpOf ws = zsOf ws ∧ txZ (zsOf ws) = ws
  | [], _ => ⟨rfl, rfl, rfl⟩
  | x :: r, h => by
    unfold okW at h
    rw [List.all_cons, Bool.and_eq_true] at h
    obtain ⟨m, hm, hn, hx⟩ := tooth200_dec h.1
    obtain ⟨h1, h2, h3⟩ := words_same r h.2
    have hi : i16V x = some (m : Int) := by rw [← hx]; exact i16V_dec (by omega)
    refine ⟨?_, ?_, ?_⟩
    · unfold okP at h1 ⊢
      rw [List.all_cons, h1, hi]; rfl
    · unfold zpOf zsOf at h2 ⊢
      rw [List.map_cons, List.map_cons, h2, hi, hn]; rfl
    · unfold txZ zsOf at h3 ⊢
      rw [List.map_cons, List.map_cons, h3, hn]
      show Lib.decDigits (Int.toNat (m : Int)) :: r = _
      rw [Int.toNat_natCast, hx]
theorem box_words {zs : List Int} (hk : okZ zs = true) : okW (txZ zs) = true ∧ zsOf (txZ zs) = zs := by
  have key : ∀ l : List Int, (∀ z ∈ l, 6 ≤ z ∧ z ≤ 200) → okW (txZ l) = true ∧ zsOf (txZ l) = l := by
    intro l
    induction l with
    | nil => intro _; exact ⟨rfl, rfl⟩
    | cons z r ih =>
      intro h
      have hz := h z (by simp)
      obtain ⟨m, rfl⟩ : ∃ m : Nat, z = (m : Int) := ⟨z.toNat, by omega⟩
      obtain ⟨h1, h2⟩ := ih (fun y hy => h y (List.mem_cons_of_mem _ hy))
      have hn : nmb (Lib.decDigits m) = some m := nmb_dec (by omega)
      refine ⟨?_, ?_⟩
      · unfold okW txZ at h1 ⊢
        rw [List.map_cons, List.all_cons, h1, Int.toNat_natCast]
        unfold tooth200
        rw [hn]
        simp; omega
      · unfold zsOf txZ at h2 ⊢
        rw [List.map_cons, List.map_cons, h2, Int.toNat_natCast, hn]; rfl
  refine key zs fun z hz => ?_
  obtain ⟨i, hi, he⟩ := List.mem_iff_getElem.1 hz
  exact okZ_teeth hk (i := i) (z := z) (by rw [List.getElem?_eq_getElem hi, he])
theorem box_spl {zs : List Int} (hk : okZ zs = true) : spl 32 (Lib.join (txZ zs) [32]) = txZ zs := by
  refine spl_of_join 32 _ (fun e => ?_) (fun x hx => ?_)
  · have := (okZ_at hk).1
    have h2 := congrArg List.length e
    rw [txZ_len] at h2
    simp at h2
    rw [h2] at this
    simp at this
  · unfold txZ at hx
    obtain ⟨z, _, rfl⟩ := List.mem_map.1 hx
    exact dig_space _
/-- The program writes what it has read, and looks whether it is the same text. -/
theorem rz_text (l : List UInt8) : rzS l = if okP (Lib.splitN l [32] 25) && decide (textZ (zpOf (Lib.splitN l [32] 25)) = l) then some (zpOf (Lib.splitN l [32] 25)) else none := by
  by_cases h : okW (spl 32 l) && okZ (zsOf (spl 32 l))
  · have hr : rzS l = some (zsOf (spl 32 l)) := by unfold rzS rzW; rw [if_pos h]
    rw [Bool.and_eq_true] at h
    obtain ⟨h1, h2, h3⟩ := words_same _ h.1
    have hlen := (okZ_at h.2).1
    have hl2 : (zsOf (spl 32 l)).length = (spl 32 l).length := by simp [zsOf]
    rw [hl2] at hlen
    have hs : Lib.splitN l [32] 25 = spl 32 l := splitN_few 32 25 l (by decide) (by omega)
    rw [hr, hs, h1, h2]
    have ht : textZ (zsOf (spl 32 l)) = l := by
      unfold textZ
      rw [h.2, if_pos rfl, h3, spl_join]
    rw [ht]
    simp
  · have hr : rzS l = none := by unfold rzS rzW; rw [if_neg h]
    rw [hr, if_neg]
    intro h2
    rw [Bool.and_eq_true] at h2
    obtain ⟨h3, h4⟩ := h2
    have h4 := of_decide_eq_true h4
    unfold textZ at h4
    cases hk : okZ (zpOf (Lib.splitN l [32] 25))
    · rw [hk] at h4
      rw [if_neg (by decide)] at h4
      subst h4
      revert h3
      decide
    · rw [hk, if_pos rfl] at h4
      have h5 := box_spl hk
      rw [h4] at h5
      obtain ⟨h6, h7⟩ := box_words hk
      apply h
      rw [h5, h6, h7, hk]; rfl
theorem rzW_bad {ws : List (List UInt8)} {k : Nat} {x : List UInt8} (hx : ws[k]? = some x) (h : tooth200 x = false) : rzW ws = none := by
  unfold rzW
  have : okW ws = false := by
    unfold okW
    rw [List.all_eq_false]
    exact ⟨x, List.mem_of_getElem? hx, by rw [h]; decide⟩
  rw [this]; rfl
theorem rzP_bad {l : List UInt8} {k : Nat} {x : List UInt8} (hx : (Lib.splitN l [32] 25)[k]? = some x) (h : i16V x = none) : rzS l = none := by
  rw [rz_text]
  have : okP (Lib.splitN l [32] 25) = false := by
    unfold okP
    rw [List.all_eq_false]
    exact ⟨x, List.mem_of_getElem? hx, by rw [h]; decide⟩
  rw [this]; rfl
def zL (r : Option (List Int)) : List Int := r.getD []
def zK (r : Option (List Int)) : Int := if r.isSome then 0 else 5
def i16s (zs : List Int) : List Value := zs.map (Value.int .i16)
/-- The call returns a box of its own, and a code. -/
def RdZ (r : Option (List Int)) (w : World) (e : Ending) (w' : World) : Prop := ∃ v, e = .returned (.tuple #[v, .int .i64 (zK r)]) ∧ w'.ownsRow w.heap.size 91 1 v (zL r).length (i16s (zL r)) ∧ Below w.heap.size w w'
end Go.Proofs.YtkkcihgnpephiaaDoor
