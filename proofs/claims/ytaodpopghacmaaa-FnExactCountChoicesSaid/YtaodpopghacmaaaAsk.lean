/-
  What the model asks of a box, a target and a part.
-/
import Derived.Test.YtaodpopghacmaaaPtb
namespace Go.Proofs.Ytaodpopghacmaaa
open Go.RowKit Go.ChangeShapes Go.WideShapes Go.Deep
attribute [local go_sem ↓] Go.wp_at_zero Go.wp_at_succ
set_option linter.unusedVariables false
set_option linter.unusedSimpArgs false
set_option maxRecDepth 100000
def askK (zs : List Int) (t x : Nat) : Int := codeX (okZ zs) (tgB t && ptB x)
theorem pt_zero : ptB 0 = true := by decide +kernel
theorem l05Asked_any (A : Option Addr) (n c : Nat) (zs : List Int) (t x : Nat) (w : World) (hl : zs.length = n) (hn : n ≤ 1048576) (hw : ∀ z ∈ zs, I16 z) {B0 : Nat} (hT : Ii w B0 A zs) :
    Calls Try.prog 47 #[.slice A n c, .float .f32 t, .float .f32 x] w (RV (.int .i64 (askK zs t x)) w) := by
  have HT := Lib.hid hT; clear hT
  have Hl := Lib.hid hl; clear hl
  unfold askK
  have hP := Lib.hid (fun w => l01Part_any x w)
  have hG := Lib.hid (fun w => l05Target_any t w)
  generalize tgB t = g at *
  generalize ptB x = u at *
  cases h1 : okZ zs
  · have hc := Lib.hid (specOk_is h1 Hl.out hn hw HT.out (c := c))
    clear h1
    go_enter Try.func47, Try.ntmps47
    go_wp2_with (go_at_call 61; refine hc.out.mono ?_; rintro e w1 ⟨rfl, b1⟩)
    go_ret
    exact ⟨rfl, b1⟩
  · have hc := Lib.hid (specOk_is h1 Hl.out hn hw HT.out (c := c))
    clear h1
    cases g
    · go_enter Try.func47, Try.ntmps47
      go_wp2_with (first | (go_at_call 61; refine hc.out.mono ?_; rintro e w1 ⟨rfl, b1⟩) | (go_at_call 76; refine (hG.out _).mono ?_; rintro e w2 ⟨rfl, rfl⟩))
      go_ret
      exact ⟨rfl, b1⟩
    · cases u
      all_goals
        go_enter Try.func47, Try.ntmps47
        go_wp2_with (first | (go_at_call 61; refine hc.out.mono ?_; rintro e w1 ⟨rfl, b1⟩) | (go_at_call 76; refine (hG.out _).mono ?_; rintro e w2 ⟨rfl, rfl⟩) | (go_at_call 85; refine (hP.out _).mono ?_; rintro e w3 ⟨rfl, rfl⟩))
        go_ret
        exact ⟨rfl, b1⟩
end Go.Proofs.Ytaodpopghacmaaa
