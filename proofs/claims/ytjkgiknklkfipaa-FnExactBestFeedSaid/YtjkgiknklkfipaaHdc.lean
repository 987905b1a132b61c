/-
  The law of GrindDay.
-/
import Derived.Test.YtjkgiknklkfipaaHda
import Derived.Test.YtjkgiknklkfipaaHdb
import Derived.Test.YtjkgiknklkfipaaSh
import Derived.Test.YtjkgiknklkfipaaFlIn2
import Derived.Deep.DeepCutAuto
namespace Go.Proofs.Ytjkgiknklkfipaa
open Go.RowKit Go.ChangeShapes Go.WideShapes Go.Deep
attribute [local go_sem ↓] Go.wp_at_zero Go.wp_at_succ
set_option linter.unusedVariables false
set_option linter.unusedSimpArgs false
set_option maxRecDepth 100000
theorem fo_of_flD {w : World} {B0 B : Nat} {A : Option Addr} {fs : List Nat} (h : Fl w B0 B A fs) : Fo w B A fs := fun h0 => by
  obtain ⟨b, e, _, h2, hc⟩ := h h0
  exact ⟨b, 0, e, h2, fun i f hf => by rw [Nat.zero_add]; exact hc i f hf⟩
theorem AtSn.mb {w w' : World} {q : Nat} {X : Sn} {A : Option Addr} (h : AtSn w q X) (hm : MB A w w') (hd : ∀ a, A = some a → a.block ≠ q) : AtSn w' q X := (hm.2.1 q hd).trans h
theorem AtLSn.mb {w w' : World} {q : Nat} {X : Sn} {A : Option Addr} (h : AtLSn w q X) (hm : MB A w w') (hd : ∀ a, A = some a → a.block ≠ q) : AtLSn w' q X := (hm.2.1 q hd).trans h
theorem dyL_le {K : Int} {S : Sn} {ts : List Nat} {f : Nat} (h : K = 0 → ts.length ≤ 60) : (dyL K S ts f).length ≤ 60 := by
  unfold dyL
  split
  · rw [dayL_len]; exact h (by assumption)
  · simp
theorem codeDay_len {S : Sn} {ts : List Nat} {n : Nat} {b : Bool} (h : codeDay S ts n b = 0) : n ≤ 60 := by
  unfold codeDay at h
  rcases Bool.eq_false_or_eq_true (okS S) with h1 | h1 <;> cases b <;> simp [h1] at h
  omega
end Go.Proofs.Ytjkgiknklkfipaa
