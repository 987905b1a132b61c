/-
  Slices of single-precision numbers: how they lie, and the walks of the functions of the laws that compare, mark and read them.
-/
import Derived.Test.YtdfookgncokgjabRadius
import Derived.Test.YtdfookgncokgjabLawsA
import Derived.Deep.RegionLaw
import Derived.Deep.Draws
import Derived.Deep.QuietTactic
import Derived.BigQuiet
namespace Go.Proofs.Ytdfookgncokgjab
open Go.RowKit Go.ChangeShapes Go.WideShapes Go.Deep
set_option linter.unusedVariables false
set_option linter.unusedSimpArgs false
/-- The slice of address A holds the numbers fs; where there is one, it lies from block B0 on, below block B. -/
def Fl (w : World) (B0 B : Nat) (A : Option Addr) (fs : List Nat) : Prop :=
  0 < fs.length → ∃ b, A = some ⟨b, 0, none⟩ ∧ B0 ≤ b ∧ b < B ∧ ∀ i f, fs[i]? = some f → w.cell? ⟨b, i, none⟩ = some (.float .f32 f)
theorem Fl.below {w w' : World} {B0 B : Nat} {A : Option Addr} {fs : List Nat} (h : Fl w B0 B A fs) {B' : Nat} (hb : Below B' w w') (hB : B ≤ B') : Fl w' B0 B A fs := fun h0 => by
  obtain ⟨b, e, h1, h2, hc⟩ := h h0
  exact ⟨b, e, h1, h2, fun i f hf => (World.cell?_of_block (a := ⟨b, i, none⟩) (hb.block b (Nat.lt_of_lt_of_le h2 hB))).trans (hc i f hf)⟩
theorem Fl.more {w : World} {B0 B B' : Nat} {A : Option Addr} {fs : List Nat} (h : Fl w B0 B A fs) (hB : B ≤ B') : Fl w B0 B' A fs := fun h0 => by
  obtain ⟨b, e, h1, h2, hc⟩ := h h0
  exact ⟨b, e, h1, Nat.lt_of_lt_of_le h2 hB, hc⟩
set_option maxRecDepth 100000 in
set_option maxHeartbeats 2000000 in
theorem eqFloats_same (A A' : Option Addr) (n c c' : Nat) (fs gs : List Nat) (w : World) (hl : fs.length = n) (he : fs.map cn = gs.map cn) (hn : n ≤ 1048576) {B0 B0' : Nat} (hT : Fl w B0 w.heap.size A fs) (hT' : Fl w B0' w.heap.size A' gs) :
    Calls Try.prog 22 #[.slice A n c, .slice A' n c'] w fun e w' => e = .returned (.bool true) ∧ Below w.heap.size w w' := by
  have hl' : gs.length = n := by have := congrArg List.length he; simp at this; omega
  have Hl := Lib.hid hl; clear hl
  have Hl' := Lib.hid hl'; clear hl'
  have He := Lib.hid he; clear he
  have HT := Lib.hid hT; clear hT
  have HT' := Lib.hid hT'; clear hT'
  go_enter Try.func22, Try.ntmps22
  go_wp2
  go_loopw [5] (fun i wr => ∃ k : Nat, k ≤ n ∧ i = .int .i64 k ∧ Below w.heap.size w wr) (fun i _ => n - (intOf i).toNat)
  case atStart => exact ⟨0, Nat.zero_le _, rfl, Below.refl _ _⟩
  case round =>
    obtain ⟨k, hk, rfl, hb⟩ := hrel
    have Hb := Lib.hid hb; clear hb
    by_cases hlt : k < n
    · have hkl : k < fs.length := by have := Hl.out; omega
      have hkl' : k < gs.length := by have := Hl'.out; omega
      obtain ⟨b, rfl, hb0, hbs, hc⟩ := HT.out (by omega)
      obtain ⟨b', rfl, hb0', hbs', hc'⟩ := HT'.out (by omega)
      obtain ⟨f, hf⟩ : ∃ f, fs[k]? = some f := ⟨_, List.getElem?_eq_getElem hkl⟩
      obtain ⟨g, hg⟩ : ∃ g, gs[k]? = some g := ⟨_, List.getElem?_eq_getElem hkl'⟩
      have hfg : cn f = cn g := by
        have h1 := congrArg (fun l => l[k]?) He.out
        simp only [List.getElem?_map, hf, hg, Option.map_some, Option.some.injEq] at h1
        exact h1
      have c0 := (World.cell?_of_block (a := ⟨b, k, none⟩) (Hb.out.block b hbs)).trans (hc k f hf)
      have d0 := (World.cell?_of_block (a := ⟨b', k, none⟩) (Hb.out.block b' hbs')).trans (hc' k g hg)
      clear hc hc' hkl hkl' hf hg
      rcases cn_cases hfg with ⟨hn2, hn1⟩ | ⟨hn1, rfl⟩
      · clear hfg
        have q1 := fun w => run_nan_wide (P := Try.prog) w 31 44 f (by rw [Try.underlying31]; rfl) Try.underlying44 hn2
        have q2 := fun w => run_nan_wide (P := Try.prog) w 31 44 g (by rw [Try.underlying31]; rfl) Try.underlying44 hn1
        clear hn1 hn2
        have z1 : (0 : Int) ≤ (k : Int) := by omega
        have z2 : (k : Int) < (n : Int) := by omega
        go_wp2_with fail
        go_region_with (first | (go_at_call 32; refine (sameFloat_nan _ _ _ (nanTo_nan _ _) (nanTo_nan _ _)).mono ?_; rintro e w' ⟨rfl, rfl⟩))
        all_goals
          go_wp2
          go_roundw
          case rel => exact ⟨k + 1, by omega, by go_num, by first | exact Hb.out.drew.drew.drew | exact below_drewN Hb.out _⟩
          case measure => simp [intOf]; omega
      · clear hfg
        have q1 := fun w => run_wide (P := Try.prog) w 31 44 f (by rw [Try.underlying31]; rfl) Try.underlying44 hn1
        have q3 := (wide_some hn1).2
        clear hn1
        go_wp2_with fail
        go_quiet ((go_at_call 32; exact Calls.quiet_of_same ((sameFloat_eq _ _ q3).mono (fun e w' h => ⟨h.1, h.2.symm⟩))))
        all_goals
          go_wp2
          go_roundw
          case rel => exact ⟨k + 1, by omega, by go_num, by first | exact Hb.out.drew.drew.drew | exact below_drewN Hb.out _⟩
          case measure => simp [intOf]; omega
    · have hkn : k = n := by omega
      subst hkn
      go_wp2
      go_ret
      exact ⟨rfl, Hb.out⟩
/-- Nothing has turned but the block that A names. -/
def MB (A : Option Addr) (w w' : World) : Prop := w'.heap.size = w.heap.size ∧ (∀ k, (∀ a, A = some a → a.block ≠ k) → w'.heap[k]? = w.heap[k]?) ∧ ∀ B, (∀ a, A = some a → B ≤ a.block) → Below B w w'
theorem MB.refl (A : Option Addr) (w : World) : MB A w w := ⟨rfl, fun _ _ => rfl, fun _ _ => Below.refl _ _⟩
theorem block_setCells (b k : Nat) (h : b ≠ k) (vs : List Value) : ∀ (w : World) (o : Nat), (w.setCells b o vs).heap[k]? = w.heap[k]? := by
  induction vs with
  | nil => intro w o; rfl
  | cons v vs ih => intro w o; rw [World.setCells, ih]; exact Below.heap_setCell _ _ _ _ (Ne.symm h)
theorem MB.set {b : Nat} {w w' : World} (h : MB (some ⟨b, 0, none⟩) w w') (o : Nat) (vs : List Value) : MB (some ⟨b, 0, none⟩) w (w'.setCells b o vs) :=
  ⟨(size_setCells b vs w' o).trans h.1, fun k hk => (block_setCells b k (hk _ rfl) vs w' o).trans (h.2.1 k hk), fun B hB => below_setCells (h.2.2 B hB) (hB _ rfl) vs o⟩
set_option maxRecDepth 100000 in
theorem markFloats_any (A : Option Addr) (n c : Nat) (k0 : Int) (w : World) (hn : n ≤ 1048576) (hk : 0 ≤ k0 ∧ k0 ≤ 1000) (hth : 0 < n → ∃ b, A = some ⟨b, 0, none⟩ ∧ w.there b 0 n) :
    Calls Try.prog 24 #[.slice A n c, .int .i64 k0] w fun e w' => e = .returned (.int .i64 (k0 + n)) ∧ MB A w w' ∧ (0 < n → ∃ b, A = some ⟨b, 0, none⟩ ∧ ∀ i : Nat, i < n → w'.cell? ⟨b, i, none⟩ = some (.float .f32 (floatOfInt .f32 (k0 + i)))) := by
  have Hth := Lib.hid hth; clear hth
  go_enter Try.func24, Try.ntmps24
  go_wp2
  go_loopw [1, 5] (fun q i wr => ∃ k : Nat, k ≤ n ∧ q = .int .i64 (k0 + k) ∧ i = .int .i64 k ∧ MB A w wr ∧ (0 < n → ∃ b, A = some ⟨b, 0, none⟩ ∧ wr.there b 0 n ∧ ∀ i : Nat, i < k → wr.cell? ⟨b, i, none⟩ = some (.float .f32 (floatOfInt .f32 (k0 + i))))) (fun _ i _ => n - (intOf i).toNat)
  case atStart =>
    refine ⟨0, Nat.zero_le _, by simp, rfl, MB.refl _ _, fun h0 => ?_⟩
    obtain ⟨b, rfl, ht⟩ := Hth.out h0
    exact ⟨b, rfl, ht, fun i hi => absurd hi (by omega)⟩
  case round =>
    obtain ⟨k, hkn, rfl, rfl, hm, hth2⟩ := hrel
    have Hm := Lib.hid hm; clear hm
    have Ht := Lib.hid hth2; clear hth2
    by_cases hlt : k < n
    · obtain ⟨b, rfl, ht, hcs⟩ := Ht.out (by omega)
      have c0 := ht k hlt
      rw [Nat.zero_add] at c0
      obtain ⟨c1, fz⟩ := c0
      obtain ⟨v, c0⟩ := Option.isSome_iff_exists.1 c1
      clear c1 Ht
      have Hth2 := Lib.hid ht; clear ht
      have Hcs := Lib.hid hcs; clear hcs
      go_wp2
      clear c0 fz
      go_roundw
      case rel =>
        refine ⟨k + 1, by omega, by go_num, by go_num, Hm.out.set k [_], fun _ => ⟨b, rfl, World.there_setCells Hth2.out b k [_], fun i hi => ?_⟩⟩
        rcases (by omega : i < k ∨ i = k) with h | rfl
        · exact World.rangeAt_setCells_apart (cs := [.float .f32 (floatOfInt .f32 (k0 + i))]) (o' := i) (fun j v hj => by cases j with | zero => (simp at hj; subst hj; exact Hcs.out i h) | succ j => simp at hj) b k [_] (Or.inr (Or.inl (by simp; omega))) 0 _ rfl
        · exact World.rangeAt_setCells_same _ b i [_] (fun j hj => by have := Hth2.out (i + j) (by simp at hj; omega); rwa [Nat.zero_add] at this) 0 _ rfl
      case measure => simp [intOf]; omega
    · have hkn' : k = n := by omega
      subst hkn'
      go_wp2
      go_ret
      refine ⟨rfl, Hm.out, fun h0 => ?_⟩
      obtain ⟨b, h1, _, h2⟩ := Ht.out h0
      exact ⟨b, h1, h2⟩
set_option maxRecDepth 100000 in
theorem heldFloats_any (A : Option Addr) (n c : Nat) (k0 : Int) (w : World) (hn : n ≤ 1048576) (hk : 0 ≤ k0 ∧ k0 ≤ 1000) (hth : 0 < n → ∃ b, A = some ⟨b, 0, none⟩ ∧ ∀ i : Nat, i < n → w.cell? ⟨b, i, none⟩ = some (.float .f32 (floatOfInt .f32 (k0 + i)))) :
    Calls Try.prog 25 #[.slice A n c, .int .i64 k0] w fun e w' => e = .returned (.int .i64 (k0 + n)) ∧ w = w' := by
  have Hth := Lib.hid hth; clear hth
  go_enter Try.func25, Try.ntmps25
  go_wp2
  go_loopw [1, 5] (fun q i wr => ∃ k : Nat, k ≤ n ∧ q = .int .i64 (k0 + k) ∧ i = .int .i64 k ∧ w = wr) (fun _ i _ => n - (intOf i).toNat)
  case atStart => exact ⟨0, Nat.zero_le _, by simp, rfl, rfl⟩
  case round =>
    obtain ⟨k, hkn, rfl, rfl, rfl⟩ := hrel
    by_cases hlt : k < n
    · obtain ⟨b, rfl, hcs⟩ := Hth.out (by omega)
      have c0 := hcs k hlt
      clear hcs
      have ho : FloatKind.f32.format.order (floatOfInt .f32 (k0 + k)) (floatOfInt .f32 (k0 + k)) = some .eq := order_self (notNan_nearest Ieee.single _ _ _)
      go_wp2
      go_roundw
      case rel => exact ⟨k + 1, by omega, by go_num, by go_num, by trivial⟩
      case measure => simp [intOf]; omega
    · have hkn' : k = n := by omega
      subst hkn'
      go_wp2
      go_ret
      exact ⟨rfl, rfl⟩
end Go.Proofs.Ytdfookgncokgjab
