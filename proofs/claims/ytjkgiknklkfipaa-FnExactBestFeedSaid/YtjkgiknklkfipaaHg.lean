/-
  GrindHour: both sides and the law.
-/
import Derived.Test.YtjkgiknklkfipaaHo
import Derived.Test.YtjkgiknklkfipaaSh
import Derived.Deep.DeepCutAuto
namespace Go.Proofs.Ytjkgiknklkfipaa
open Go.RowKit Go.ChangeShapes Go.WideShapes Go.Deep
attribute [local go_sem ↓] Go.wp_at_zero Go.wp_at_succ
set_option linter.unusedVariables false
set_option linter.unusedSimpArgs false
set_option maxRecDepth 100000
theorem ret_snfc {fn : Func} {tmps : Array Value} {W : World} {q s t u : Nat} {T : Sn} (hr : fn.results = #[.cell s 42, .tmp t, .tmp u]) (h2 : tmps.getD s undef = .pointer (some ⟨q, 0, none⟩)) (Z : Blk W q #[.float .f32 T.d, .float .f32 T.r, .float .f32 T.b, .float .f32 T.g] 42) :
    (results fn tmps).run Try.prog W = .ok (.tuple #[.agg #[.float .f32 T.d, .float .f32 T.r, .float .f32 T.b, .float .f32 T.g], tmps.getD t undef, tmps.getD u undef]) W := by
  have e0 := Z.cell 0
  have e1 := Z.cell 1
  have e2 := Z.cell 2
  have e3 := Z.cell 3
  simp at e0 e1 e2 e3
  rw [Array.getD_eq_getD_getElem?] at h2
  simp [results, hr, h2, go_sem, e0, e1, e2, e3]
def RHoC (C : Sn) (f : Nat) (k : Int) (w : World) (e : Ending) (w' : World) : Prop := ∃ T r, e = .returned (.tuple #[.agg #[.float .f32 T.d, .float .f32 T.r, .float .f32 T.b, .float .f32 T.g], .float .f32 r, .int .i64 k]) ∧ SnIs T C ∧ CN r f ∧ Below w.heap.size w w'
theorem Blk.push {w : World} {q : Nat} {cs : Array Value} {t : TypeId} (h : Blk w q cs t) (o : Obj) : Blk (w.alloc o) q cs t := h.on (W := w) rfl (b_alloc (Below.refl _ _) o)
theorem grinding_c (fd : Nat) (w : World) : Calls Try.prog 62 #[.float .f32 fd] w fun e w' => ∃ q, e = .returned (.func (.func 96) #[] #[.pointer (some ⟨q, 0, none⟩)]) ∧ One w' q (.float .f32 fd) 24 ∧ w.heap.size ≤ q ∧ Below w.heap.size w w' := by
  have hmf : ∀ (fn : Fn) (first cap : Array Value) (w : World), (Instr.makeFunc fn first cap).run Try.prog w = .ok (.func fn first cap) w := fun _ _ _ _ => rfl
  have h1 := One.new w (.float .f32 fd) 24
  have H1 := Lib.hid h1
  clear h1
  go_enter Try.func62, Try.ntmps62
  go_wp2
  go_ret
  exact ⟨_, rfl, H1.out, Nat.le_refl _, b_alloc (Below.refl _ _) _⟩
theorem code_ok {S : Sn} {a : Bool} (h : codeR (okS S) a = 0) : okS S = true ∧ a = true := by
  unfold codeR at h
  cases h1 : okS S <;> cases h2 : a <;> simp_all

end Go.Proofs.Ytjkgiknklkfipaa
