/-
  Teeth as results: worn, turned, new: the program's functions and the model's.
-/
import Derived.Test.YtkkcihgnpephiaaDoorYb
import Derived.Test.YtkkcihgnpephiaaDoorSm
namespace Go.Proofs.YtkkcihgnpephiaaDoor
open Go.RowKit Go.ChangeShapes Go.WideShapes Go.Deep
attribute [local go_sem ↓] Go.wp_at_zero Go.wp_at_succ
set_option linter.unusedVariables false
set_option linter.unusedSimpArgs false
set_option maxRecDepth 100000

theorem Blk.frozen {w : World} {q : Nat} {cs : Array Value} {t : TypeId} (h : Blk w q cs t) (i : Nat) : w.frozen? ⟨q, i, none⟩ = false := by
  unfold World.frozen?
  rw [h]
  simp
theorem Blk.setO {w : World} {q q' : Nat} {cs : Array Value} {t : TypeId} (h : Blk w q cs t) (hne : q ≠ q') (i : Nat) (v : Value) : Blk (w.setCell ⟨q', i, none⟩ v) q cs t := (Below.heap_setCell w ⟨q', i, none⟩ v q hne).trans h
theorem ret_th {fn : Func} {tmps : Array Value} {W : World} {q s : Nat} {T : Th} (hr : fn.results = #[.cell s 72]) (h2 : tmps.getD s undef = .pointer (some ⟨q, 0, none⟩)) (Z : Blk W q #[.float .f32 T.h, .float .f32 T.u, .float .f32 T.v, .int .i8 T.s] 72) :
    (results fn tmps).run Tryd.prog W = .ok (.agg #[.float .f32 T.h, .float .f32 T.u, .float .f32 T.v, .int .i8 T.s]) W := by
  have e0 := Z.cell 0
  have e1 := Z.cell 1
  have e2 := Z.cell 2
  have e3 := Z.cell 3
  simp at e0 e1 e2 e3
  rw [Array.getD_eq_getD_getElem?] at h2
  simp [results, hr, h2, go_sem, e0, e1, e2, e3]
theorem ret_thc {fn : Func} {tmps : Array Value} {W : World} {q s t : Nat} {T : Th} (hr : fn.results = #[.cell s 72, .tmp t]) (h2 : tmps.getD s undef = .pointer (some ⟨q, 0, none⟩)) (Z : Blk W q #[.float .f32 T.h, .float .f32 T.u, .float .f32 T.v, .int .i8 T.s] 72) :
    (results fn tmps).run Tryd.prog W = .ok (.tuple #[.agg #[.float .f32 T.h, .float .f32 T.u, .float .f32 T.v, .int .i8 T.s], tmps.getD t undef]) W := by
  have e0 := Z.cell 0
  have e1 := Z.cell 1
  have e2 := Z.cell 2
  have e3 := Z.cell 3
  simp at e0 e1 e2 e3
  rw [Array.getD_eq_getD_getElem?] at h2
  simp [results, hr, h2, go_sem, e0, e1, e2, e3]
def cnT (X : Th) : Th := ⟨cn X.h, cn X.u, cn X.v, X.s⟩
/-- The tooth is C, up to which NaN its numbers are. -/
def ThIs (T C : Th) : Prop := cnT T = C
def RTh (C : Th) (w : World) (e : Ending) (w' : World) : Prop := ∃ T : Th, e = .returned (.agg #[.float .f32 T.h, .float .f32 T.u, .float .f32 T.v, .int .i8 T.s]) ∧ ThIs T C ∧ Below w.heap.size w w'
def RThC (C : Th) (k : Int) (w : World) (e : Ending) (w' : World) : Prop := ∃ T : Th, e = .returned (.tuple #[.agg #[.float .f32 T.h, .float .f32 T.u, .float .f32 T.v, .int .i8 T.s], .int .i64 k]) ∧ ThIs T C ∧ Below w.heap.size w w'
def th0 : Th := ⟨0, 0, 0, 0⟩
def thIf (k : Int) (C : Th) : Th := if k = 0 then C else th0
theorem cnz : cn 0 = 0 := cn_of_not nan_zero
theorem is_th0 : ThIs ⟨0, 0, 0, 0⟩ th0 := by unfold ThIs cnT th0; rw [cnz]
theorem okT_cn {S T : Th} (h : cnT S = cnT T) : okT S = okT T := by
  unfold cnT at h
  injection h with h1 h2 h3 h4
  unfold okT hardB partB
  rw [show sidB S.s = sidB T.s by rw [h4]]
  have a1 := oGe_cn h1 (rfl : cn 1065353216 = _); have a2 := oLe_cn h1 (rfl : cn 1199570944 = _)
  have b1 := oGe_cn h2 (rfl : cn 0 = _); have b2 := oLe_cn h2 (rfl : cn 1065353216 = _)
  have c1 := oGe_cn h3 (rfl : cn 0 = _); have c2 := oLe_cn h3 (rfl : cn 1065353216 = _)
  rw [a1, a2]
  unfold oGe at b1 c1
  unfold oLe at b2 c2
  rw [b1, b2, c1, c2]
theorem cnT_cnT (S : Th) : cnT (cnT S) = cnT S := by unfold cnT; simp only [cn_cn]
theorem okT_side {X : Th} (h : okT X = true) : X.s = 0 ∨ X.s = 1 := by
  unfold okT at h
  simp only [Bool.and_eq_true] at h
  exact (sid_cases h.2.2).1 rfl
theorem boxT_two (w : World) (X : Th) : Blk ((w.alloc (.cells #[.float .f32 X.h, .float .f32 X.u, .float .f32 X.v, .int .i8 X.s] 72)).alloc (.cells #[.float .f32 0, .float .f32 0, .float .f32 0, .int .i8 0] 72)) w.heap.size #[.float .f32 X.h, .float .f32 X.u, .float .f32 X.v, .int .i8 X.s] 72 ∧ Blk ((w.alloc (.cells #[.float .f32 X.h, .float .f32 X.u, .float .f32 X.v, .int .i8 X.s] 72)).alloc (.cells #[.float .f32 0, .float .f32 0, .float .f32 0, .int .i8 0] 72)) (w.heap.size + 1) #[.float .f32 0, .float .f32 0, .float .f32 0, .int .i8 0] 72 ∧ Below w.heap.size w ((w.alloc (.cells #[.float .f32 X.h, .float .f32 X.u, .float .f32 X.v, .int .i8 X.s] 72)).alloc (.cells #[.float .f32 0, .float .f32 0, .float .f32 0, .int .i8 0] 72)) := by
  refine ⟨(Below.heap_alloc _ _ _ (by simp)).trans (Blk.new _ _ _), ?_, b_alloc (b_alloc (Below.refl _ _) _) _⟩
  have e : (w.alloc (.cells #[.float .f32 X.h, .float .f32 X.u, .float .f32 X.v, .int .i8 X.s] 72)).heap.size = w.heap.size + 1 := by simp
  rw [← e]
  exact Blk.new _ _ _
def codeT (ok rng : Bool) : Int := if ok then (if rng then 0 else 2) else 1
theorem codeT_cases {o r : Bool} {K : Int} (h : codeT o r = K) : K = 0 ∨ K = 1 ∨ K = 2 := by
  subst h
  unfold codeT
  cases o <;> cases r <;> simp
def curW (X : Th) : Nat := if X.s = 0 then X.u else X.v
def othW (X : Th) : Nat := if X.s = 0 then X.v else X.u
def capW (q : Nat) : Nat := if oGt q 1065353216 then 1065353216 else q
def wearC (h x l : Nat) : Nat := capW (f2 .add x (f2 .quo (f2 .mul l (f2 .add (cn 1065353216) x)) h))
/-- The tooth behind a week, of canonical words. -/
def wornC (C : Th) (l : Nat) : Th := if C.s = 0 then ⟨C.h, wearC C.h C.u l, C.v, C.s⟩ else ⟨C.h, C.u, wearC C.h C.v l, C.s⟩
def wornX (X : Th) (l : Nat) : Th := wornC (cnT X) (cn l)
def turnC (C : Th) : Th := ⟨C.h, C.u, C.v, 1 - C.s⟩
def newC (C : Th) : Th := ⟨C.h, 0, 0, 0⟩
theorem cn_one : cn 1065353216 = 1065353216 := cn_of_not (by decide +kernel)
theorem capW_fmin (op : BinOp) (x y : Nat) : fmin (f2 op x y) (cn 1065353216) = capW (f2 op x y) := by
  rw [cn_one]
  exact fmin_test (w32_f2 _ _ _) (cn_f2 _ _ _) (by decide) (by decide)
end Go.Proofs.YtkkcihgnpephiaaDoor
