/-
  Slices of single-precision numbers: how they lie, and the walks of the functions of the laws that compare, mark and read them.
-/
import Derived.Test.YtjkgiknklkfipaaBase
import Derived.Deep.AppendLies
import Derived.Deep.MidRow
import Derived.Deep.RegionLaw
import Derived.Deep.Draws
import Derived.Deep.QuietTactic
import Derived.BigQuiet
namespace Go.Proofs.Ytjkgiknklkfipaa
open Go.RowKit Go.ChangeShapes Go.WideShapes Go.Deep
set_option linter.unusedVariables false
set_option linter.unusedSimpArgs false
/-- The slice of address A holds the numbers fs; where there is one, it lies from block B0 on, below block B. -/
def Fl (w : World) (B0 B : Nat) (A : Option Addr) (fs : List Nat) : Prop :=
  0 < fs.length → ∃ b, A = some ⟨b, 0, none⟩ ∧ B0 ≤ b ∧ b < B ∧ ∀ i f, fs[i]? = some f → w.cell? ⟨b, i, none⟩ = some (.float .f32 f)
theorem Fl.below {w w' : World} {B0 B : Nat} {A : Option Addr} {fs : List Nat} (h : Fl w B0 B A fs) {B' : Nat} (hb : Below B' w w') (hB : B ≤ B') : Fl w' B0 B A fs := fun h0 => by
  obtain ⟨b, e, h1, h2, hc⟩ := h h0
  exact ⟨b, e, h1, h2, fun i f hf => (World.cell?_of_block (a := ⟨b, i, none⟩) (hb.block b (Nat.lt_of_lt_of_le h2 hB))).trans (hc i f hf)⟩
theorem Fl.more {w : World} {B0 B B' : Nat} {A : Option Addr} {fs : List Nat} (h : Fl w B0 B A fs) (hB : B ≤ B') : Fl w B0 B' A fs := fun h0 => by
  obtain ⟨b, e, h1, h2, hc⟩ := h h0
  exact ⟨b, e, h1, Nat.lt_of_lt_of_le h2 hB, hc⟩
set_option maxRecDepth 100000 in
set_option maxHeartbeats 2000000 in
theorem eqFloats_same (A A' : Option Addr) (n c c' : Nat) (fs gs : List Nat) (w : World) (hl : fs.length = n) (he : fs.map cn = gs.map cn) (hn : n ≤ 1048576) {B0 B0' : Nat} (hT : Fl w B0 w.heap.size A fs) (hT' : Fl w B0' w.heap.size A' gs) :
    Calls Try.prog 23 #[.slice A n c, .slice A' n c'] w fun e w' => e = .returned (.bool true) ∧ Below w.heap.size w w' := by
  have hl' : gs.length = n := by have := congrArg List.length he; simp at this; omega
  have Hl := Lib.hid hl; clear hl
  have Hl' := Lib.hid hl'; clear hl'
  have He := Lib.hid he; clear he
  have HT := Lib.hid hT; clear hT
  have HT' := Lib.hid hT'; clear hT'
  go_enter Try.func23, Try.ntmps23
  go_wp2
  go_loopw [5] (fun i wr => ∃ k : Nat, k ≤ n ∧ i = .int .i64 k ∧ Below w.heap.size w wr) (fun i _ => n - (intOf i).toNat)
  case atStart => exact ⟨0, Nat.zero_le _, rfl, Below.refl _ _⟩
  case round =>
    obtain ⟨k, hk, rfl, hb⟩ := hrel
    have Hb := Lib.hid hb; clear hb
    by_cases hlt : k < n
    · have hkl : k < fs.length := by have := Hl.out; omega
      have hkl' : k < gs.length := by have := Hl'.out; omega
      obtain ⟨b, rfl, hb0, hbs, hc⟩ := HT.out (by omega)
      obtain ⟨b', rfl, hb0', hbs', hc'⟩ := HT'.out (by omega)
      obtain ⟨f, hf⟩ : ∃ f, fs[k]? = some f := ⟨_, List.getElem?_eq_getElem hkl⟩
      obtain ⟨g, hg⟩ : ∃ g, gs[k]? = some g := ⟨_, List.getElem?_eq_getElem hkl'⟩
      have hfg : cn f = cn g := by
        have h1 := congrArg (fun l => l[k]?) He.out
        simp only [List.getElem?_map, hf, hg, Option.map_some, Option.some.injEq] at h1
        exact h1
      have c0 := (World.cell?_of_block (a := ⟨b, k, none⟩) (Hb.out.block b hbs)).trans (hc k f hf)
      have d0 := (World.cell?_of_block (a := ⟨b', k, none⟩) (Hb.out.block b' hbs')).trans (hc' k g hg)
      clear hc hc' hkl hkl' hf hg
      rcases cnx hfg with ⟨hn2, hn1⟩ | ⟨hn1, rfl⟩
      · clear hfg
        have q1 := fun w => run_nan_wide (P := Try.prog) w 24 35 f (by rw [Try.underlying24]; rfl) Try.underlying35 hn2
        have q2 := fun w => run_nan_wide (P := Try.prog) w 24 35 g (by rw [Try.underlying24]; rfl) Try.underlying35 hn1
        clear hn1 hn2
        have z1 : (0 : Int) ≤ (k : Int) := by omega
        have z2 : (k : Int) < (n : Int) := by omega
        go_wp2_with fail
        go_region_with (first | (go_at_call 28; refine (sf_nan _ _ _ (nanTo_nan _ _) (nanTo_nan _ _)).mono ?_; rintro e w' ⟨rfl, rfl⟩))
        all_goals
          go_wp2
          go_roundw
          case rel => exact ⟨k + 1, by omega, by go_num, by first | exact Hb.out.drew.drew.drew | exact b_drewN Hb.out _⟩
          case measure => simp [intOf]; omega
      · clear hfg
        have q1 := fun w => run_wide (P := Try.prog) w 24 35 f (by rw [Try.underlying24]; rfl) Try.underlying35 hn1
        have q3 := (wide_some hn1).2
        clear hn1
        go_wp2_with fail
        go_quiet ((go_at_call 28; exact Calls.quiet_of_same ((sf_eq _ _ q3).mono (fun e w' h => ⟨h.1, h.2.symm⟩))))
        all_goals
          go_wp2
          go_roundw
          case rel => exact ⟨k + 1, by omega, by go_num, by first | exact Hb.out.drew.drew.drew | exact b_drewN Hb.out _⟩
          case measure => simp [intOf]; omega
    · have hkn : k = n := by omega
      subst hkn
      go_wp2
      go_ret
      exact ⟨rfl, Hb.out⟩
set_option maxRecDepth 100000 in
theorem markFloats_any (A : Option Addr) (n c : Nat) (k0 : Int) (w : World) (hn : n ≤ 1048576) (hk : 0 ≤ k0 ∧ k0 ≤ 10000000) (hth : 0 < n → ∃ b, A = some ⟨b, 0, none⟩ ∧ w.there b 0 n) :
    Calls Try.prog 24 #[.slice A n c, .int .i64 k0] w fun e w' => e = .returned (.int .i64 (k0 + n)) ∧ MB A w w' ∧ (0 < n → ∃ b, A = some ⟨b, 0, none⟩ ∧ ∀ i : Nat, i < n → w'.cell? ⟨b, i, none⟩ = some (.float .f32 (floatOfInt .f32 (k0 + i)))) := by
  have Hth := Lib.hid hth; clear hth
  go_enter Try.func24, Try.ntmps24
  go_wp2
  go_loopw [1, 5] (fun q i wr => ∃ k : Nat, k ≤ n ∧ q = .int .i64 (k0 + k) ∧ i = .int .i64 k ∧ MB A w wr ∧ (0 < n → ∃ b, A = some ⟨b, 0, none⟩ ∧ wr.there b 0 n ∧ ∀ i : Nat, i < k → wr.cell? ⟨b, i, none⟩ = some (.float .f32 (floatOfInt .f32 (k0 + i))))) (fun _ i _ => n - (intOf i).toNat)
  case atStart =>
    refine ⟨0, Nat.zero_le _, by simp, rfl, MB.refl _ _, fun h0 => ?_⟩
    obtain ⟨b, rfl, ht⟩ := Hth.out h0
    exact ⟨b, rfl, ht, fun i hi => absurd hi (by omega)⟩
  case round =>
    obtain ⟨k, hkn, rfl, rfl, hm, hth2⟩ := hrel
    have Hm := Lib.hid hm; clear hm
    have Ht := Lib.hid hth2; clear hth2
    by_cases hlt : k < n
    · obtain ⟨b, rfl, ht, hcs⟩ := Ht.out (by omega)
      have c0 := ht k hlt
      rw [Nat.zero_add] at c0
      obtain ⟨c1, fz⟩ := c0
      obtain ⟨v, c0⟩ := Option.isSome_iff_exists.1 c1
      clear c1 Ht
      have Hth2 := Lib.hid ht; clear ht
      have Hcs := Lib.hid hcs; clear hcs
      go_wp2
      clear c0 fz
      go_roundw
      case rel =>
        refine ⟨k + 1, by omega, by go_num, by go_num, Hm.out.set k [_], fun _ => ⟨b, rfl, World.there_setCells Hth2.out b k [_], fun i hi => ?_⟩⟩
        rcases (by omega : i < k ∨ i = k) with h | rfl
        · exact World.rangeAt_setCells_apart (cs := [.float .f32 (floatOfInt .f32 (k0 + i))]) (o' := i) (fun j v hj => by cases j with | zero => (simp at hj; subst hj; exact Hcs.out i h) | succ j => simp at hj) b k [_] (Or.inr (Or.inl (by simp; omega))) 0 _ rfl
        · exact World.rangeAt_setCells_same _ b i [_] (fun j hj => by have := Hth2.out (i + j) (by simp at hj; omega); rwa [Nat.zero_add] at this) 0 _ rfl
      case measure => simp [intOf]; omega
    · have hkn' : k = n := by omega
      subst hkn'
      go_wp2
      go_ret
      refine ⟨rfl, Hm.out, fun h0 => ?_⟩
      obtain ⟨b, h1, _, h2⟩ := Ht.out h0
      exact ⟨b, h1, h2⟩
set_option maxRecDepth 100000 in
theorem heldFloats_any (A : Option Addr) (n c : Nat) (k0 : Int) (w : World) (hn : n ≤ 1048576) (hk : 0 ≤ k0 ∧ k0 ≤ 10000000) (hth : 0 < n → ∃ b, A = some ⟨b, 0, none⟩ ∧ ∀ i : Nat, i < n → w.cell? ⟨b, i, none⟩ = some (.float .f32 (floatOfInt .f32 (k0 + i)))) :
    Calls Try.prog 25 #[.slice A n c, .int .i64 k0] w fun e w' => e = .returned (.int .i64 (k0 + n)) ∧ w = w' := by
  have Hth := Lib.hid hth; clear hth
  go_enter Try.func25, Try.ntmps25
  go_wp2
  go_loopw [1, 5] (fun q i wr => ∃ k : Nat, k ≤ n ∧ q = .int .i64 (k0 + k) ∧ i = .int .i64 k ∧ w = wr) (fun _ i _ => n - (intOf i).toNat)
  case atStart => exact ⟨0, Nat.zero_le _, by simp, rfl, rfl⟩
  case round =>
    obtain ⟨k, hkn, rfl, rfl, rfl⟩ := hrel
    by_cases hlt : k < n
    · obtain ⟨b, rfl, hcs⟩ := Hth.out (by omega)
      have c0 := hcs k hlt
      clear hcs
      have ho : FloatKind.f32.format.order (floatOfInt .f32 (k0 + k)) (floatOfInt .f32 (k0 + k)) = some .eq := order_self (notNan_nearest Ieee.single _ _ _)
      go_wp2
      go_roundw
      case rel => exact ⟨k + 1, by omega, by go_num, by go_num, by trivial⟩
      case measure => simp [intOf]; omega
    · have hkn' : k = n := by omega
      subst hkn'
      go_wp2
      go_ret
      exact ⟨rfl, rfl⟩
theorem Fl.mb {w w' : World} {B0 B : Nat} {A A' : Option Addr} {fs : List Nat} (h : Fl w B0 B A fs) (hm : MB A' w w') (hd : ∀ a, A' = some a → a.block < B0 ∨ B ≤ a.block) : Fl w' B0 B A fs := fun h0 => by
  obtain ⟨b, e, h1, h2, hc⟩ := h h0
  exact ⟨b, e, h1, h2, fun i f hf => (World.cell?_of_block (a := ⟨b, i, none⟩) (hm.2.1 b (fun a ha => by have := hd a ha; omega))).trans (hc i f hf)⟩
/-- The call returns a slice of numbers, known up to which NaN they are, and a code; the slice is the call's own and may be written. -/
def FLC (cs : List Nat) (k : Int) (w : World) (e : Ending) (w' : World) : Prop :=
  ∃ A n c fs, e = .returned (.tuple #[.slice A n c, .int .i64 k]) ∧ fs.length = n ∧ fs.map cn = cs ∧ Fl w' w.heap.size w'.heap.size A fs ∧ (0 < n → ∃ b, A = some ⟨b, 0, none⟩ ∧ w'.there b 0 n) ∧ (∀ a, A = some a → w.heap.size ≤ a.block ∧ a.block < w'.heap.size) ∧ Below w.heap.size w w'
theorem flc_of_row {w w' : World} {v : Value} {n : Nat} {fs : List Nat} {k : Int} (h : w'.ownsRow w.heap.size 24 1 v n (fs.map (Value.float .f32))) (hb : Below w.heap.size w w') : FLC (fs.map cn) k w (.returned (.tuple #[v, .int .i64 k])) w' := by
  obtain ⟨h1, h2⟩ := h
  simp at h1
  rcases h2 with ⟨rfl, h0⟩ | ⟨g, cap, cur, rfl, hg, hh, hnc, hcap, hcs, ht⟩
  · exact ⟨none, 0, 0, fs, rfl, by omega, rfl, fun h => absurd h (by omega), fun h => absurd h (by omega), fun a h => (by cases h), hb⟩
  · have hlt : g < w'.heap.size := by
      rcases Nat.lt_or_ge g w'.heap.size with hlt | hge
      · exact hlt
      · rw [Array.getElem?_eq_none hge] at hh; cases hh
    refine ⟨some ⟨g, 0, none⟩, n, cap, fs, rfl, h1, rfl, fun _ => ⟨g, rfl, hg, hlt, fun i f hf => ?_⟩, fun _ => ⟨g, rfl, fun j hj => ?_⟩, fun a h => (by cases h; exact ⟨hg, hlt⟩), hb⟩
    · rw [cell_of_row _ _ i _ _ _ hh]
      have hi : i < n := by rw [← h1]; exact (List.getElem?_eq_some_iff.1 hf).1
      have e1 := congrArg (fun l => l[i]?) ht
      simp only [List.getElem?_take, List.getElem?_map, hf, Option.map_some] at e1
      rw [if_pos (by omega)] at e1
      simpa using e1
    · rw [Nat.zero_add]
      refine ⟨?_, ?_⟩
      · rw [cell_of_row _ _ j _ _ _ hh]
        simp
        omega
      · unfold World.frozen?
        rw [hh]
        simp
theorem infoF32 : (Try.prog.info? 24).map (fun i => (i.zero, i.size, i.bytes)) = some (some (.float .f32 0), 1, 4) := by kernel_rfl
theorem Fl.weak {w : World} {B0 B : Nat} {A : Option Addr} {fs : List Nat} (h : Fl w B0 B A fs) : Fl w 0 B A fs := fun h0 => by
  obtain ⟨b, e, _, h2, hc⟩ := h h0
  exact ⟨b, e, Nat.zero_le _, h2, hc⟩
theorem Fl.keep {w w' : World} {A : Option Addr} {fs : List Nat} (h : Fl w 0 w.heap.size A fs) (hb : Below w.heap.size w w') : Fl w' 0 w'.heap.size A fs := (h.below hb (Nat.le_refl _)).more hb.size
theorem Fl.mb0 {w w' : World} {A A' : Option Addr} {fs : List Nat} (h : Fl w 0 w.heap.size A fs) (hm : MB A' w w') (hd : ∀ a a', A = some a → A' = some a' → a'.block ≠ a.block) : Fl w' 0 w'.heap.size A fs := fun h0 => by
  obtain ⟨b, e, _, hlt, hc⟩ := h h0
  exact ⟨b, e, Nat.zero_le _, by rw [hm.1]; exact hlt, fun i f hf => (World.cell?_of_block (a := ⟨b, i, none⟩) (hm.2.1 b (fun a' ha' => hd ⟨b, 0, none⟩ a' e ha'))).trans (hc i f hf)⟩
end Go.Proofs.Ytjkgiknklkfipaa
