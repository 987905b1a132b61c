/-
  A belt read from its text: the program's.
-/
import Derived.Test.YtkkcihgnpephiaaDoorTba
import Derived.Test.YtkkcihgnpephiaaDoorTsb
namespace Go.Proofs.YtkkcihgnpephiaaDoor
open Go.RowKit Go.ChangeShapes Go.WideShapes Go.Deep
attribute [local go_sem ↓] Go.wp_at_zero Go.wp_at_succ
set_option linter.unusedVariables false
set_option linter.unusedSimpArgs false
set_option maxRecDepth 100000
theorem l5w {α : Type} {l : List α} (h : l.length = 5) : ∃ a b c d e, l = [a, b, c, d, e] := by
  match l, h with
  | [a, b, c, d, e], _ => exact ⟨a, b, c, d, e, rfl⟩
theorem ret5 {fn : Func} {tmps : Array Value} {W : World} {q s t : Nat} {x0 x1 x2 x3 x4 : Value} (hr : fn.results = #[.cell s 44, .tmp t]) (h2 : tmps.getD s undef = .pointer (some ⟨q, 0, none⟩)) (Z : Blk W q #[x0, x1, x2, x3, x4] 44) :
    (results fn tmps).run Tryd.prog W = .ok (.tuple #[.agg #[x0, x1, x2, x3, x4], tmps.getD t undef]) W := by
  have e0 := Z.cell 0
  have e1 := Z.cell 1
  have e2 := Z.cell 2
  have e3 := Z.cell 3
  have e4 := Z.cell 4
  simp at e0 e1 e2 e3 e4
  rw [Array.getD_eq_getD_getElem?] at h2
  simp [results, hr, h2, go_sem, e0, e1, e2, e3, e4]
def mkB (v : List Nat) (x : Bool) : Bl := ⟨v.getD 0 0, v.getD 1 0, v.getD 2 0, v.getD 3 0, x⟩
def isCr (e : List UInt8) : Bool := decide (e = crW)
def isOp (e : List UInt8) : Bool := decide (e = opW)
/-- A belt out of its five words. -/
def rbW (ws : List (List UInt8)) : Option Bl := if ws.length = 5 then (if okAll (ws.take 4) then (if (isCr (ws.getD 4 []) || isOp (ws.getD 4 [])) && okB (mkB (rdV (ws.take 4)) (isCr (ws.getD 4 []))) then some (mkB (rdV (ws.take 4)) (isCr (ws.getD 4 []))) else none) else none) else none
def rbS (l : List UInt8) : Option Bl := rbW (spl 32 l)
theorem rbW5 (a b c d e : List UInt8) : rbW [a, b, c, d, e] = if okAll [a, b, c, d] then (if (isCr e || isOp e) && okB (mkB (rdV [a, b, c, d]) (isCr e)) then some (mkB (rdV [a, b, c, d]) (isCr e)) else none) else none := by
  unfold rbW
  rw [if_pos (show [a, b, c, d, e].length = 5 from rfl)]
  rfl
theorem rdN_some {x : List UInt8} (h : (rdN x).isSome = true) : rnV (rdN x) < 4294967296 ∧ hex8 (cn (rnV (rdN x))) = x := by
  obtain ⟨v, hv⟩ := Option.isSome_iff_exists.1 h
  obtain ⟨h1, h2, h3⟩ := rdN_lt hv
  rw [hv]
  show v < _ ∧ hex8 (cn v) = x
  rw [h2]
  exact ⟨h1, h3⟩
theorem opW_clean : (32 : UInt8) ∉ opW := by decide
theorem crW_clean : (32 : UInt8) ∉ crW := by decide
theorem wordB_is (e : List UInt8) : wordB (isCr e) = e ↔ (isCr e || isOp e) = true := by
  unfold isCr isOp wordB
  by_cases h : e = crW
  · subst h; simp
  · simp [h]
    exact ⟨fun h => h.symm, fun h => h.symm⟩
theorem rb_text {l a b c d e : List UInt8} (hs : spl 32 l = [a, b, c, d, e]) (hok : okAll [a, b, c, d] = true) :
    decide (textB (mkB (rdV [a, b, c, d]) (isCr e)) = l) = ((isCr e || isOp e) && okB (mkB (rdV [a, b, c, d]) (isCr e))) := by
  have hl := spl_join 32 l
  have hc := spl_clean 32 l
  rw [hs] at hl hc
  have hoka : ∀ x ∈ [a, b, c, d], (rdN x).isSome = true := fun x hx => by
    unfold okAll at hok
    exact List.all_eq_true.1 hok x hx
  have ea := (rdN_some (hoka a (by simp))).2
  have eb := (rdN_some (hoka b (by simp))).2
  have ec := (rdN_some (hoka c (by simp))).2
  have ed := (rdN_some (hoka d (by simp))).2
  have et : txB (mkB (rdV [a, b, c, d]) (isCr e)) = [a, b, c, d, wordB (isCr e)] := by
    show [hex8 (cn (rnV (rdN a))), hex8 (cn (rnV (rdN b))), hex8 (cn (rnV (rdN c))), hex8 (cn (rnV (rdN d))), wordB (isCr e)] = _
    rw [ea, eb, ec, ed]
  unfold textB
  rw [et]
  cases hb : okB (mkB (rdV [a, b, c, d]) (isCr e))
  · rw [Bool.and_false]
    apply decide_eq_false
    intro h
    rw [if_neg (by decide)] at h
    rw [← h] at hs
    have : (spl 32 []).length = 5 := by rw [hs]; rfl
    simp [spl] at this
  · rw [Bool.and_true, if_pos rfl]
    have hwc : (32 : UInt8) ∉ wordB (isCr e) := by
      unfold wordB
      split
      · exact crW_clean
      · exact opW_clean
    by_cases hw : wordB (isCr e) = e
    · rw [(wordB_is e).1 hw, hw]
      exact decide_eq_true hl
    · have hf : (isCr e || isOp e) = false := by
        cases h : (isCr e || isOp e)
        · rfl
        · exact absurd ((wordB_is e).2 h) hw
      rw [hf]
      apply decide_eq_false
      intro h
      have h1 := spl_of_join 32 [a, b, c, d, wordB (isCr e)] (by simp) (fun x hx => by
        rcases List.mem_cons.1 hx with rfl | hx
        · exact hc _ (by simp)
        · rcases List.mem_cons.1 hx with rfl | hx
          · exact hc _ (by simp)
          · rcases List.mem_cons.1 hx with rfl | hx
            · exact hc _ (by simp)
            · rcases List.mem_cons.1 hx with rfl | hx
              · exact hc _ (by simp)
              · simp at hx
                subst hx
                exact hwc)
      rw [h, hs] at h1
      simp at h1
      exact hw h1.symm
def blD (r : Option Bl) : Bl := r.getD ⟨0, 0, 0, 0, false⟩
def blK (r : Option Bl) : Int := if r.isSome then 0 else 5
/-- The call returns a belt, and a code. -/
def RdB (r : Option Bl) (w : World) (e : Ending) (w' : World) : Prop := e = .returned (.tuple #[.agg #[.float .f32 (blD r).a, .float .f32 (blD r).b, .float .f32 (blD r).ap, .float .f32 (blD r).g, .bool (blD r).x], .int .i64 (blK r)]) ∧ Below w.heap.size w w'
theorem rdb_none {w w' : World} {r : Option Bl} (h : r = none) (b : Below w.heap.size w w') : RdB r w (.returned (.tuple #[.agg #[.float .f32 0, .float .f32 0, .float .f32 0, .float .f32 0, .bool false], .int .i64 5])) w' := by subst h; exact ⟨rfl, b⟩
theorem rdb_some {w w' : World} {r : Option Bl} {T : Bl} (h : r = some T) (b : Below w.heap.size w w') : RdB r w (.returned (.tuple #[.agg #[.float .f32 T.a, .float .f32 T.b, .float .f32 T.ap, .float .f32 T.g, .bool T.x], .int .i64 0])) w' := by subst h; exact ⟨rfl, b⟩
theorem rb_len (l : List UInt8) (h : (Lib.splitN l [32] 6).length = 5) : Lib.splitN l [32] 6 = spl 32 l := by
  by_cases h6 : (spl 32 l).length ≤ 6
  · exact splitN_few 32 6 l (by decide) h6
  · have := (splitN_many 32 6 l (by decide) (by omega)).1
    omega
theorem rb_nolen (l : List UInt8) (h : ¬ (Lib.splitN l [32] 6).length = 5) : rbS l = none := by
  unfold rbS rbW
  rw [if_neg]
  intro h5
  exact h (by rw [splitN_few 32 6 l (by decide) (by omega)]; exact h5)
end Go.Proofs.YtkkcihgnpephiaaDoor
