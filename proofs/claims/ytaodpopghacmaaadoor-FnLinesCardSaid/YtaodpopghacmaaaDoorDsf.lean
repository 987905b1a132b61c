/-
  The model's comparison of lists of numbers that are one up to NaN.
-/
import Derived.Test.YtaodpopghacmaaaDoorFs2
import Derived.Test.YtaodpopghacmaaaDoorSmb
import Derived.BigQuiet
namespace Go.Proofs.YtaodpopghacmaaaDoor
open Go.RowKit Go.ChangeShapes Go.WideShapes Go.Deep
attribute [local go_sem ↓] Go.wp_at_zero Go.wp_at_succ
set_option linter.unusedVariables false
set_option linter.unusedSimpArgs false
set_option maxRecDepth 100000
theorem sB_same {a b : Nat} (h : cn a = cn b) : sB a b = true := decide_eq_true h
theorem sameN_same {a b : Nat} (h : cn a = cn b) (w : World) : Calls Tryd.prog 15 #[.float .f32 a, .float .f32 b] w fun e w' => e = .returned (.bool true) ∧ w = w' := by
  have H := Lib.hid (l01S_is (sB_same h)); clear h
  go_enter Tryd.func15, Tryd.ntmps15
  go_wp2_with (go_at_call 29; refine (H.out _).mono ?_; rintro e w1 ⟨rfl, rfl⟩)
  go_ret
  exact ⟨rfl, rfl⟩
theorem a2Same_same (A A' : Option Addr) (n c c' : Nat) (fs gs : List Nat) (w : World) (hl : fs.length = n) (he : fs.map cn = gs.map cn) (hn : n ≤ 1048576) {B0 B0' : Nat} (hT : Fl w B0 w.heap.size A fs) (hT' : Fl w B0' w.heap.size A' gs) :
    Calls Tryd.prog 11 #[.slice A n c, .slice A' n c'] w fun e w' => e = .returned (.bool true) ∧ Below w.heap.size w w' := by
  have hl' : gs.length = n := by have := congrArg List.length he; simp at this; omega
  have Hl := Lib.hid hl; clear hl
  have Hl' := Lib.hid hl'; clear hl'
  have He := Lib.hid he; clear he
  have HT := Lib.hid hT; clear hT
  have HT' := Lib.hid hT'; clear hT'
  go_enter Tryd.func11, Tryd.ntmps11
  go_wp2
  go_loopw [5] (fun i wr => ∃ k : Nat, k ≤ n ∧ i = .int .i64 k ∧ Below w.heap.size w wr) (fun i _ => n - (intOf i).toNat)
  case atStart => exact ⟨0, Nat.zero_le _, rfl, Below.refl _ _⟩
  case round =>
    obtain ⟨k, hk, rfl, hb⟩ := hrel
    have Hb := Lib.hid hb; clear hb
    by_cases hlt : k < n
    · have hkl : k < fs.length := by have := Hl.out; omega
      have hkl' : k < gs.length := by have := Hl'.out; omega
      obtain ⟨b, rfl, hb0, hbs, hc⟩ := HT.out (by omega)
      obtain ⟨b', rfl, hb0', hbs', hc'⟩ := HT'.out (by omega)
      obtain ⟨f, hf⟩ : ∃ f, fs[k]? = some f := ⟨_, List.getElem?_eq_getElem hkl⟩
      obtain ⟨g, hg⟩ : ∃ g, gs[k]? = some g := ⟨_, List.getElem?_eq_getElem hkl'⟩
      have hfg : cn f = cn g := by
        have h1 := congrArg (fun l => l[k]?) He.out
        simp only [List.getElem?_map, hf, hg, Option.map_some, Option.some.injEq] at h1
        exact h1
      have c0 := (World.cell?_of_block (a := ⟨b, k, none⟩) (Hb.out.block b hbs)).trans (hc k f hf)
      have d0 := (World.cell?_of_block (a := ⟨b', k, none⟩) (Hb.out.block b' hbs')).trans (hc' k g hg)
      have H := Lib.hid (l01S_is (sB_same hfg))
      have z1 : (0 : Int) ≤ (k : Int) := by omega
      have z2 : (k : Int) < (n : Int) := by omega
      clear hc hc' hkl hkl' hf hg hfg
      go_wp2_with fail
      go_quiet ((go_at_call 29; exact Calls.quiet_of_same ((H.out _).mono (fun e w' h => ⟨h.1, h.2.symm⟩))))
      all_goals
        go_wp2
        go_roundw
        case rel => exact ⟨k + 1, by omega, by go_num, by first | exact Hb.out.drew.drew.drew | exact b_drewN Hb.out _ | exact Hb.out⟩
        case measure => simp [intOf]; omega
    · have hkn : k = n := by omega
      subst hkn
      go_wp2
      go_ret
      exact ⟨rfl, Hb.out⟩
end Go.Proofs.YtaodpopghacmaaaDoor
