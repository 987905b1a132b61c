/-
  A train read from its text: what both readers make of it.
-/
import Derived.Test.YtkkcihgnpephiaaDoorTrb
namespace Go.Proofs.YtkkcihgnpephiaaDoor
open Go.RowKit Go.ChangeShapes Go.WideShapes Go.Deep
attribute [local go_sem ↓] Go.wp_at_zero Go.wp_at_succ
set_option linter.unusedVariables false
set_option linter.unusedSimpArgs false
set_option maxRecDepth 100000
def i16V (l : List UInt8) : Option Int := match Lib.parseIntB 16 l with | .ok v => some v | _ => none
/-- What the library's ParseInt makes of a text, at sixteen bits. -/
def PI16 (l : List UInt8) (w : World) (e : Ending) (w' : World) : Prop := (match i16V l with | some v => e = .returned (.tuple #[.int .i64 v, .nilIface]) | none => ∃ (x : Int) (N : Nat), e = .returned (.tuple #[.int .i64 x, .iface 157 (.pointer (some ⟨N, 0, none⟩))])) ∧ Below w.heap.size w w'
theorem parseInt16_any (t : ByteArray) (hmax : t.size ≤ 281474976710656) (w : World) (hE : TeAt w) : Calls Tryd.prog 85 #[.string t, .int .i64 10, .int .i64 16] w (PI16 t.data.toList w) := by
  unfold PI16 i16V
  obtain ⟨⟨t1, p1, h1⟩, t2, p2, h2⟩ := hE
  cases h : Lib.parseIntB 16 t.data.toList
  · rename_i v
    refine (Tryd.strconv_ParseInt_10_at16_ok t (by omega) v h w).mono ?_
    rintro e w' ⟨rfl, rfl | ⟨s, rfl⟩⟩
    · exact ⟨rfl, Below.refl _ _⟩
    · exact ⟨rfl, Lib.bytesWorld_below _ _ _⟩
  · refine (Any.strconv_ParseInt_10_at16_syntax Tryd.laysC174 t hmax h _ w h1 (.inr ⟨t1, p1, rfl⟩)).mono ?_
    rintro e w' ⟨N, rfl, _, _, b⟩
    exact ⟨⟨_, _, rfl⟩, b⟩
  · refine (Any.strconv_ParseInt_10_at16_range Tryd.laysC174 t hmax h _ w h2 (.inr ⟨t2, p2, rfl⟩)).mono ?_
    rintro e w' ⟨N, rfl, _, _, b⟩
    exact ⟨⟨_, _, rfl⟩, b⟩
theorem i16V_dec {u : Nat} (h : u < 32768) : i16V (Lib.decDigits u) = some (u : Int) := by
  unfold i16V
  rw [pI_dec 16 u (by omega) (by omega) (by simpa using h)]
theorem parseB16_range {l : List UInt8} {v : Int} (h : Lib.parseIntB 16 l = .ok v) : -32768 ≤ v ∧ v < 32768 := by
  unfold Lib.parseIntB at h
  split at h
  · cases h
  · simp only at h
    split at h
    · cases h
    · cases h
    · rename_i u hu
      split at h
      · cases h
      · split at h
        · cases h
        · rename_i h1 h2
          injection h with h
          subst h
          simp at h1 h2
          split <;> omega
theorem i16V_range {l : List UInt8} {v : Int} (h : i16V l = some v) : -32768 ≤ v ∧ v ≤ 32767 := by
  unfold i16V at h
  split at h
  · rename_i v' h'
    injection h with h
    subst h
    have := parseB16_range h'
    omega
  · cases h
theorem i16V_nil : i16V [] = none := rfl
def txI (p : Px) : List UInt8 := Lib.itoa p.a ++ 47 :: (Lib.itoa p.b ++ 58 :: hex8 (cn p.l))
/-- A pair out of its word, as the model reads it. -/
def rpS (x : List UInt8) : Option Px := match spl 58 x with
  | [y, z] => (match spl 47 y with
    | [a, b] => (match nmb a, nmb b, rdN z with
      | some m, some n, some l => if teethB (m : Int) && teethB (n : Int) then some ⟨m, n, l⟩ else none
      | _, _, _ => none)
    | _ => none)
  | _ => none
def cutY (x : List UInt8) : List UInt8 := (Lib.cut x [58]).1
def cutZ (x : List UInt8) : List UInt8 := (Lib.cut x [58]).2.1
def cutA (x : List UInt8) : List UInt8 := (Lib.cut (cutY x) [47]).1
def cutB (x : List UInt8) : List UInt8 := (Lib.cut (cutY x) [47]).2.1
/-- A pair out of its word, as the program reads it: it writes what it has read, and looks. -/
def rpI (x : List UInt8) : Option Px := match i16V (cutA x), i16V (cutB x), rdN (cutZ x) with
  | some m, some n, some l => if txI ⟨m, n, l⟩ = x then some ⟨m, n, l⟩ else none
  | _, _, _ => none
theorem teeth_nat {m : Int} (h : teethB m = true) : ∃ k : Nat, m = (k : Int) ∧ k ≤ 200 := by
  unfold teethB at h
  simp at h
  exact ⟨m.toNat, by omega, by omega⟩
theorem txI_nat (m n l : Nat) : txI ⟨(m : Int), (n : Int), l⟩ = Lib.decDigits m ++ 47 :: (Lib.decDigits n ++ 58 :: hex8 (cn l)) := by
  unfold txI
  rw [itoa_nat, itoa_nat]
theorem digC (n : Nat) (c : UInt8) (hc : c.toNat < 48 ∨ 57 < c.toNat) : c ∉ Lib.decDigits n := fun h => by
  have := dec_digit n c h
  omega
theorem rdN_hex {z : List UInt8} {l : Nat} (h : rdN z = some l) : hex8 (cn l) = z := by
  have := (rdN_some (x := z) (by rw [h]; rfl)).2
  rwa [h] at this
theorem pair_fwd {x : List UInt8} {p : Px} (h : rpS x = some p) : rpI x = some p := by
  unfold rpS at h
  split at h
  · rename_i y z hs
    split at h
    · rename_i a b hs2
      split at h
      · rename_i m n l hm hn hl
        split at h
        · rename_i ht
          injection h with h
          subst h
          rw [Bool.and_eq_true] at ht
          obtain ⟨m', hm', hm2⟩ := teeth_nat ht.1
          obtain ⟨n', hn', hn2⟩ := teeth_nat ht.2
          have em := nmb_inv hm
          have en := nmb_inv hn
          have hx := spl_join 58 x
          have hxc := spl_clean 58 x
          rw [hs] at hx hxc
          have hy := spl_join 47 y
          have hyc := spl_clean 47 y
          rw [hs2] at hy hyc
          rw [join_two, Lib.join_one] at hx hy
          have c1 : Lib.cut x [58] = (y, z, true) := by rw [← hx]; exact cut_hit 58 y z (hxc y (by simp))
          have c2 : Lib.cut y [47] = (a, b, true) := by rw [← hy]; exact cut_hit 47 a b (hyc a (by simp))
          have e1 : cutY x = y := by unfold cutY; rw [c1]
          have e2 : cutZ x = z := by unfold cutZ; rw [c1]
          have e3 : cutA x = a := by unfold cutA; rw [e1, c2]
          have e4 : cutB x = b := by unfold cutB; rw [e1, c2]
          unfold rpI
          rw [e2, e3, e4, hl, ← em, i16V_dec (by omega), ← en, i16V_dec (by omega)]
          simp only
          rw [if_pos]
          rw [txI_nat, em, en, rdN_hex hl, ← hx, ← hy]
          simp
        · cases h
      · cases h
    · cases h
  · cases h
theorem pair_back {x : List UInt8} {p : Px} (h : rpI x = some p) (ht : teethB p.a = true) (ht2 : teethB p.b = true) : rpS x = some p := by
  unfold rpI at h
  split at h
  · rename_i m n l hm hn hl
    split at h
    · rename_i he
      injection h with h
      subst h
      obtain ⟨m', hm', hm2⟩ := teeth_nat ht
      obtain ⟨n', hn', hn2⟩ := teeth_nat ht2
      simp only at hm' hn' ht ht2
      subst hm'
      subst hn'
      have hz := rdN_hex hl
      rw [txI_nat] at he
      have hx : x = (Lib.decDigits m' ++ 47 :: Lib.decDigits n') ++ 58 :: hex8 (cn l) := by rw [← he]; simp
      have n1 : (58 : UInt8) ∉ Lib.decDigits m' ++ 47 :: Lib.decDigits n' := by
        simp only [List.mem_append, List.mem_cons, not_or]
        exact ⟨digC _ _ (by decide), by decide, digC _ _ (by decide)⟩
      have n2 : (58 : UInt8) ∉ hex8 (cn l) := fun h => (hex_digit 8 (cn l) 58 h).2.2 rfl
      have s1 : spl 58 x = [Lib.decDigits m' ++ 47 :: Lib.decDigits n', hex8 (cn l)] := by rw [hx, spl_sep _ _ _ n1, spl_one _ _ n2]
      have s2 : spl 47 (Lib.decDigits m' ++ 47 :: Lib.decDigits n') = [Lib.decDigits m', Lib.decDigits n'] := by rw [spl_sep _ _ _ (digC _ _ (by decide)), spl_one _ _ (digC _ _ (by decide))]
      unfold rpS
      rw [s1]
      simp only
      rw [s2]
      simp only
      rw [nmb_dec (by omega), nmb_dec (by omega), hz, hl]
      simp only
      rw [ht, ht2]
      rfl
    · cases h
  · cases h
def okWS (ws : List (List UInt8)) : Bool := ws.all fun x => (rpS x).isSome
def psS (ws : List (List UInt8)) : List Px := ws.map fun x => (rpS x).getD ⟨0, 0, 0⟩
def okWI (ws : List (List UInt8)) : Bool := ws.all fun x => (rpI x).isSome
def psI (ws : List (List UInt8)) : List Px := ws.map fun x => (rpI x).getD ⟨0, 0, 0⟩
def rtrW (ws : List (List UInt8)) : Option (List Px) := if okWS ws && okTr (psS ws) then some (psS ws) else none
def rtrS (l : List UInt8) : Option (List Px) := rtrW (spl 32 l)
theorem words_fwd : ∀ ws : List (List UInt8), okWS ws = true → okWI ws = true ∧ psI ws = psS ws
  | [], _ => ⟨rfl, rfl⟩
  | x :: r, h => by
    unfold okWS at h
    rw [List.all_cons, Bool.and_eq_true] at h
    obtain ⟨p, hp⟩ := Option.isSome_iff_exists.1 h.1
    obtain ⟨h1, h2⟩ := words_fwd r h.2
    have hi := pair_fwd hp
    refine ⟨?_, ?_⟩
    · unfold okWI at h1 ⊢
      rw [List.all_cons, h1, hi]; rfl
    · unfold psI psS at h2 ⊢
      rw [List.map_cons, List.map_cons, h2, hi, hp]
theorem words_back : ∀ ws : List (List UInt8), okWI ws = true → (∀ p ∈ psI ws, teethB p.a = true ∧ teethB p.b = true) → okWS ws = true ∧ psS ws = psI ws
  | [], _, _ => ⟨rfl, rfl⟩
  | x :: r, h, ht => by
    unfold okWI at h
    rw [List.all_cons, Bool.and_eq_true] at h
    obtain ⟨p, hp⟩ := Option.isSome_iff_exists.1 h.1
    have e : psI (x :: r) = p :: psI r := by unfold psI; rw [List.map_cons, hp]; rfl
    rw [e] at ht
    have hpt := ht p (by simp)
    obtain ⟨h1, h2⟩ := words_back r h.2 (fun q hq => ht q (List.mem_cons_of_mem _ hq))
    have hb := pair_back hp hpt.1 hpt.2
    refine ⟨?_, ?_⟩
    · unfold okWS at h1 ⊢
      rw [List.all_cons, h1, hb]; rfl
    · rw [e, ← h2]
      unfold psS
      rw [List.map_cons, hb]; rfl
theorem teeth_of {ps : List Px} (h : okTr ps = true) : ∀ p ∈ ps, teethB p.a = true ∧ teethB p.b = true := fun p hp => by
  obtain ⟨h1, h2, _⟩ := teeth_bounds h hp
  unfold teethB
  simp
  omega
/-- Both readers make the same of a text. -/
theorem rtr_text (l : List UInt8) : rtrS l = if okWI (Lib.splitN l [32] 9) && okTr (psI (Lib.splitN l [32] 9)) then some (psI (Lib.splitN l [32] 9)) else none := by
  by_cases h : okWS (spl 32 l) && okTr (psS (spl 32 l))
  · have hr : rtrS l = some (psS (spl 32 l)) := by unfold rtrS rtrW; rw [if_pos h]
    rw [Bool.and_eq_true] at h
    obtain ⟨h1, h2⟩ := words_fwd _ h.1
    have hlen := (size_bounds h.2).2
    have hl2 : (psS (spl 32 l)).length = (spl 32 l).length := by simp [psS]
    rw [hl2] at hlen
    have hs : Lib.splitN l [32] 9 = spl 32 l := splitN_few 32 9 l (by decide) (by omega)
    rw [hr, hs, h1, h2, h.2]
    simp
  · have hr : rtrS l = none := by unfold rtrS rtrW; rw [if_neg h]
    rw [hr, if_neg]
    intro h2
    rw [Bool.and_eq_true] at h2
    obtain ⟨h3, h4⟩ := h2
    have hlen := (size_bounds h4).2
    have hl2 : (psI (Lib.splitN l [32] 9)).length = (Lib.splitN l [32] 9).length := by simp [psI]
    rw [hl2] at hlen
    have hs : Lib.splitN l [32] 9 = spl 32 l := by
      refine splitN_few 32 9 l (by decide) ?_
      rw [splitN_length 32 9 l (by decide)] at hlen
      omega
    obtain ⟨h5, h6⟩ := words_back _ h3 (teeth_of h4)
    rw [hs] at h5 h6 h4
    apply h
    rw [h5, h6, h4]; rfl
end Go.Proofs.YtkkcihgnpephiaaDoor
