/-
  A tooth read from its text: what both readers make of it; a small integer read by the library.
-/
import Derived.Test.YtkkcihgnpephiaaDoorTta
namespace Go.Proofs.YtkkcihgnpephiaaDoor
open Go.RowKit Go.ChangeShapes Go.WideShapes Go.Deep
attribute [local go_sem ↓] Go.wp_at_zero Go.wp_at_succ
set_option linter.unusedVariables false
set_option linter.unusedSimpArgs false
set_option maxRecDepth 100000
def i8V (l : List UInt8) : Option Int := match Lib.parseIntB 8 l with | .ok v => some v | _ => none
/-- What the library's ParseInt makes of a text, at eight bits. -/
def PI8 (l : List UInt8) (w : World) (e : Ending) (w' : World) : Prop := (match i8V l with | some v => e = .returned (.tuple #[.int .i64 v, .nilIface]) | none => ∃ (x : Int) (N : Nat), e = .returned (.tuple #[.int .i64 x, .iface 157 (.pointer (some ⟨N, 0, none⟩))])) ∧ Below w.heap.size w w'
theorem parseInt8_any (t : ByteArray) (hmax : t.size ≤ 281474976710656) (w : World) (hE : TeAt w) : Calls Tryd.prog 85 #[.string t, .int .i64 10, .int .i64 8] w (PI8 t.data.toList w) := by
  unfold PI8 i8V
  obtain ⟨⟨t1, p1, h1⟩, t2, p2, h2⟩ := hE
  cases h : Lib.parseIntB 8 t.data.toList
  · rename_i v
    refine (Tryd.strconv_ParseInt_10_at8_ok t (by omega) v h w).mono ?_
    rintro e w' ⟨rfl, rfl | ⟨s, rfl⟩⟩
    · exact ⟨rfl, Below.refl _ _⟩
    · exact ⟨rfl, Lib.bytesWorld_below _ _ _⟩
  · refine (Any.strconv_ParseInt_10_at8_syntax Tryd.laysC174 t hmax h _ w h1 (.inr ⟨t1, p1, rfl⟩)).mono ?_
    rintro e w' ⟨N, rfl, _, _, b⟩
    exact ⟨⟨_, _, rfl⟩, b⟩
  · refine (Any.strconv_ParseInt_10_at8_range Tryd.laysC174 t hmax h _ w h2 (.inr ⟨t2, p2, rfl⟩)).mono ?_
    rintro e w' ⟨N, rfl, _, _, b⟩
    exact ⟨⟨_, _, rfl⟩, b⟩
theorem i8V_dec {u : Nat} (h : u < 128) : i8V (Lib.decDigits u) = some (u : Int) := by
  unfold i8V
  rw [pI_dec 8 u (by omega) (by omega) (by simpa using h)]
theorem parseB_range {B : Nat} {l : List UInt8} {v : Int} (hB : 1 ≤ B) (h : Lib.parseIntB B l = .ok v) : -(2 ^ (B - 1) : Nat) ≤ v ∧ v < (2 ^ (B - 1) : Nat) := by
  have hp : 0 < 2 ^ (B - 1) := Nat.two_pow_pos _
  unfold Lib.parseIntB at h
  split at h
  · cases h
  · simp only at h
    split at h
    · cases h
    · cases h
    · rename_i u hu
      split at h
      · cases h
      · split at h
        · cases h
        · rename_i h1 h2
          injection h with h
          subst h
          split <;> omega
theorem i8V_range {l : List UInt8} {v : Int} (h : i8V l = some v) : -128 ≤ v ∧ v ≤ 127 := by
  unfold i8V at h
  split at h
  · rename_i v' h'
    injection h with h
    subst h
    have := parseB_range (by omega) h'
    simp at this
    omega
  · cases h
def mkT (v : List Nat) (s : Int) : Th := ⟨v.getD 0 0, v.getD 1 0, v.getD 2 0, s⟩
/-- A tooth out of its four words. -/
def rtW (ws : List (List UInt8)) : Option Th := if ws.length = 4 then (if okAll (ws.take 3) then (match nmb (ws.getD 3 []) with | some n => if n ≤ 1 ∧ okT (mkT (rdV (ws.take 3)) (n : Int)) = true then some (mkT (rdV (ws.take 3)) (n : Int)) else none | none => none) else none) else none
def rtS (l : List UInt8) : Option Th := rtW (spl 44 l)
theorem rtW4 (a b c d : List UInt8) : rtW [a, b, c, d] = if okAll [a, b, c] then (match nmb d with | some n => if n ≤ 1 ∧ okT (mkT (rdV [a, b, c]) (n : Int)) = true then some (mkT (rdV [a, b, c]) (n : Int)) else none | none => none) else none := by
  unfold rtW
  rw [if_pos (show [a, b, c, d].length = 4 from rfl)]
  rfl
theorem dig_clean (n : Nat) : (44 : UInt8) ∉ Lib.decDigits n := fun h => by
  have := dec_digit n 44 h
  simp at this
/-- The program writes what it has read, and looks whether it is the same text. -/
theorem rt_text {l a b c d : List UInt8} (hs : spl 44 l = [a, b, c, d]) (hok : okAll [a, b, c] = true) :
    rtS l = (match i8V d with | some v => if textT (mkT (rdV [a, b, c]) v) = l then some (mkT (rdV [a, b, c]) v) else none | none => none) := by
  have hl := spl_join 44 l
  have hc := spl_clean 44 l
  unfold rtS
  rw [hs] at hl hc ⊢
  rw [rtW4, if_pos hok]
  have hoka : ∀ x ∈ [a, b, c], (rdN x).isSome = true := fun x hx => by
    unfold okAll at hok
    exact List.all_eq_true.1 hok x hx
  have ea := (rdN_some (hoka a (by simp))).2
  have eb := (rdN_some (hoka b (by simp))).2
  have ec := (rdN_some (hoka c (by simp))).2
  have et : ∀ v, txT (mkT (rdV [a, b, c]) v) = [a, b, c, Lib.decDigits v.toNat] := fun v => by
    show [hex8 (cn (rnV (rdN a))), hex8 (cn (rnV (rdN b))), hex8 (cn (rnV (rdN c))), Lib.decDigits v.toNat] = _
    rw [ea, eb, ec]
  have key : ∀ v, textT (mkT (rdV [a, b, c]) v) = l ↔ (okT (mkT (rdV [a, b, c]) v) = true ∧ Lib.decDigits v.toNat = d) := fun v => by
    unfold textT
    rw [et]
    constructor
    · intro h
      split at h
      · rename_i hk
        refine ⟨hk, ?_⟩
        have h1 := spl_of_join 44 [a, b, c, Lib.decDigits v.toNat] (by simp) (fun x hx => by
          rcases List.mem_cons.1 hx with rfl | hx
          · exact hc _ (by simp)
          · rcases List.mem_cons.1 hx with rfl | hx
            · exact hc _ (by simp)
            · rcases List.mem_cons.1 hx with rfl | hx
              · exact hc _ (by simp)
              · simp at hx
                subst hx
                exact dig_clean _)
        rw [h, hs] at h1
        simp at h1
        exact h1.symm
      · rw [← h] at hs
        simp [spl] at hs
    · rintro ⟨hk, h⟩
      rw [if_pos hk, h, hl]
  cases hn : nmb d with
  | some n =>
    have hd := nmb_inv hn
    simp only
    by_cases h1 : n ≤ 1
    · have hv : i8V d = some (n : Int) := by rw [← hd]; exact i8V_dec (by omega)
      rw [hv]
      simp only
      by_cases hk : okT (mkT (rdV [a, b, c]) (n : Int)) = true
      · rw [if_pos ⟨h1, hk⟩, if_pos ((key _).2 ⟨hk, by rw [Int.toNat_natCast]; exact hd⟩)]
      · rw [if_neg (fun h => hk h.2), if_neg (fun h => hk ((key _).1 h).1)]
    · rw [if_neg (fun h => h1 h.1)]
      cases hv : i8V d with
      | none => rfl
      | some v =>
        simp only
        rw [if_neg]
        intro h
        obtain ⟨hk, h2⟩ := (key _).1 h
        obtain ⟨m, hm, hm1⟩ := okT_nat hk
        have hm' : v = (m : Int) := hm
        subst hm'
        rw [Int.toNat_natCast] at h2
        rw [← h2, nmb_dec (by omega)] at hn
        injection hn with hn
        omega
  | none =>
    cases hv : i8V d with
    | none => rfl
    | some v =>
      simp only
      rw [if_neg]
      intro h
      obtain ⟨hk, h2⟩ := (key _).1 h
      obtain ⟨m, hm, hm1⟩ := okT_nat hk
      have hm' : v = (m : Int) := hm
      subst hm'
      rw [Int.toNat_natCast] at h2
      rw [← h2, nmb_dec (by omega)] at hn
      cases hn
theorem rt_len (l : List UInt8) (h : (Lib.splitN l [44] 5).length = 4) : Lib.splitN l [44] 5 = spl 44 l := by
  by_cases h6 : (spl 44 l).length ≤ 5
  · exact splitN_few 44 5 l (by decide) h6
  · have := (splitN_many 44 5 l (by decide) (by omega)).1
    omega
theorem rt_nolen (l : List UInt8) (h : ¬ (Lib.splitN l [44] 5).length = 4) : rtS l = none := by
  unfold rtS rtW
  rw [if_neg]
  intro h5
  exact h (by rw [splitN_few 44 5 l (by decide) (by omega)]; exact h5)
theorem ret4t {fn : Func} {tmps : Array Value} {W : World} {q s t : Nat} {x0 x1 x2 x3 : Value} (hr : fn.results = #[.cell s 72, .tmp t]) (h2 : tmps.getD s undef = .pointer (some ⟨q, 0, none⟩)) (Z : Blk W q #[x0, x1, x2, x3] 72) :
    (results fn tmps).run Tryd.prog W = .ok (.tuple #[.agg #[x0, x1, x2, x3], tmps.getD t undef]) W := by
  have e0 := Z.cell 0
  have e1 := Z.cell 1
  have e2 := Z.cell 2
  have e3 := Z.cell 3
  simp at e0 e1 e2 e3
  rw [Array.getD_eq_getD_getElem?] at h2
  simp [results, hr, h2, go_sem, e0, e1, e2, e3]
def thD (r : Option Th) : Th := r.getD ⟨0, 0, 0, 0⟩
def thK (r : Option Th) : Int := if r.isSome then 0 else 5
/-- The call returns a tooth, and a code. -/
def RdT (r : Option Th) (w : World) (e : Ending) (w' : World) : Prop := e = .returned (.tuple #[.agg #[.float .f32 (thD r).h, .float .f32 (thD r).u, .float .f32 (thD r).v, .int .i8 (thD r).s], .int .i64 (thK r)]) ∧ Below w.heap.size w w'
theorem rdt_none {w w' : World} {r : Option Th} (h : r = none) (b : Below w.heap.size w w') : RdT r w (.returned (.tuple #[.agg #[.float .f32 0, .float .f32 0, .float .f32 0, .int .i8 0], .int .i64 5])) w' := by subst h; exact ⟨rfl, b⟩
theorem rdt_some {w w' : World} {r : Option Th} {T : Th} (h : r = some T) (b : Below w.heap.size w w') : RdT r w (.returned (.tuple #[.agg #[.float .f32 T.h, .float .f32 T.u, .float .f32 T.v, .int .i8 T.s], .int .i64 0])) w' := by subst h; exact ⟨rfl, b⟩
end Go.Proofs.YtkkcihgnpephiaaDoor
