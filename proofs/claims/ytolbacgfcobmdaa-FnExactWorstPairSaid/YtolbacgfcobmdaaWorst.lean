/-
  The pair with the greatest loss: the model's function and the program's.
-/
import Derived.Test.YtolbacgfcobmdaaLawsA
import Derived.Test.YtolbacgfcobmdaaEqual
import Derived.Test.YtolbacgfcobmdaaOrd
import Derived.Maps.OwnOps
import Derived.Maps.OwnSet
import Derived.Maps.Views
import Derived.Laws.Externs
import Derived.Laws.EntriesVeiled
import Derived.Deep.RegionLaw
import Derived.Deep.QuietTactic
import Derived.BigQuiet
namespace Go.Proofs.Ytolbacgfcobmdaa
open Go.RowKit Go.ChangeShapes Go.WideShapes Go.Deep Go.Maps
set_option linter.unusedVariables false
set_option linter.unusedSimpArgs false
def lossAt (ps : List Pr) (i : Nat) : Nat := (ps.getD i ⟨0, 0, 0⟩).l
def rkAt (ps : List Pr) (i : Nat) : Int := rk (lossAt ps i)
theorem lossAt_of {ps : List Pr} {i : Nat} {p : Pr} (h : ps[i]? = some p) : lossAt ps i = p.l := by
  unfold lossAt
  rw [List.getD_eq_getElem?_getD, h]
  rfl
theorem part_num {l : Nat} (h : partB l = true) : nan32 l = false := by
  cases hn : nan32 l
  · rfl
  · unfold partB at h
    rw [order_nan_left (k := .f32) 0 hn] at h
    simp at h
theorem part_rk {l : Nat} (h : partB l = true) : 0 ≤ rk l ∧ rk l ≤ 1065353216 := by
  have hn := part_num h
  have z0 : nan32 0 = false := by decide +kernel
  have z1 : nan32 1065353216 = false := by decide +kernel
  unfold partB at h
  rw [ord_rk hn z0, ord_rk hn z1] at h
  have r0 : rk 0 = 0 := by decide
  have r1 : rk 1065353216 = 1065353216 := by decide
  rw [r0, r1] at h
  simp only [Bool.and_eq_true, Bool.or_eq_true, beq_iff_eq, Option.some.injEq, Int.compare_eq_gt, Int.compare_eq_lt, Int.compare_eq_eq] at h
  omega
/-- A part whose rank is above nought is its rank. -/
theorem part_word {l : Nat} (hl : l < 4294967296) (h : 0 < rk l) : (l : Int) = rk l := by
  unfold rk at h ⊢
  split at h
  · omega
  · rename_i hs
    rw [if_neg hs]
    simp at hs
    omega
/-- The first pair with the greatest loss of the first k. -/
def IsWorst (ps : List Pr) (k j : Nat) : Prop := j < k ∧ (∀ i, i < j → rkAt ps i < rkAt ps j) ∧ ∀ i, i < k → rkAt ps i ≤ rkAt ps j
theorem IsWorst.uniq {ps : List Pr} {k i j : Nat} (h : IsWorst ps k i) (g : IsWorst ps k j) : i = j := by
  obtain ⟨h1, h2, h3⟩ := h
  obtain ⟨g1, g2, g3⟩ := g
  rcases Nat.lt_trichotomy i j with x | x | x
  · have := g2 i x; have := h3 j g1; omega
  · exact x
  · have := h2 j x; have := g3 i h1; omega
theorem IsWorst.one {ps : List Pr} : IsWorst ps 1 0 := by
  refine ⟨by omega, fun i h => absurd h (by omega), fun i h => ?_⟩
  have e : i = 0 := by omega
  subst e
  exact Int.le_refl _
theorem IsWorst.next {ps : List Pr} {k j : Nat} (h : IsWorst ps k j) (hg : rkAt ps j < rkAt ps k) : IsWorst ps (k + 1) k := by
  obtain ⟨h1, h2, h3⟩ := h
  refine ⟨by omega, fun i hi => ?_, fun i hi => ?_⟩
  · have := h3 i hi; omega
  · rcases (by omega : i < k ∨ i = k) with x | rfl
    · have := h3 i x; omega
    · exact Int.le_refl _
theorem IsWorst.stay {ps : List Pr} {k j : Nat} (h : IsWorst ps k j) (hg : ¬ rkAt ps j < rkAt ps k) : IsWorst ps (k + 1) j := by
  obtain ⟨h1, h2, h3⟩ := h
  refine ⟨by omega, h2, fun i hi => ?_⟩
  rcases (by omega : i < k ∨ i = k) with x | rfl
  · exact h3 i x
  · omega
theorem part_at {ps : List Pr} (h : okTr ps = true) {i : Nat} (hi : i < ps.length) : partB (lossAt ps i) = true := by
  have hp := List.getElem?_eq_getElem hi
  rw [lossAt_of hp]
  exact (teeth_bounds h (List.mem_of_getElem? hp)).2.2
/-- The call returns a pair, its loss and no error, or nothing and an error. -/
def WorstE (ps : List Pr) (e : Ending) : Prop := if okTr ps then ∃ j, IsWorst ps ps.length j ∧ e = .returned (.tuple #[.int .i64 (j : Int), .float .f32 (lossAt ps j), .int .i64 0]) else e = .returned (.tuple #[.int .i64 0, .float .f32 0, .int .i64 1])
set_option maxRecDepth 100000 in
set_option maxHeartbeats 2000000 in
theorem specWorst_any (A : Option Addr) (n c : Nat) (ps : List Pr) (w : World) (hl : ps.length = n) (hn : n ≤ 1048576) (hT : Tr w w.heap.size A ps) (hw : ∀ p ∈ ps, p.wf) :
    Calls Try.prog 10 #[.slice A n c] w fun e w' => WorstE ps e ∧ Below w.heap.size w w' := by
  have Hl := Lib.hid hl; clear hl
  have HT := Lib.hid hT; clear hT
  have Hw := Lib.hid hw; clear hw
  unfold WorstE
  rcases Bool.eq_false_or_eq_true (okTr ps) with h1 | h1
  · simp only [h1, if_true]
    have zs := size_bounds h1
    rw [Hl.out] at zs
    have H1 := Lib.hid h1
    obtain ⟨b, off, rfl, hbs, hc⟩ := HT.out (by rw [Hl.out]; omega)
    have Hc := Lib.hid hc; clear hc
    go_enter Try.func10, Try.ntmps10
    go_wp2_with (go_at_call 35; refine (l01Ok_any _ _ _ ps _ Hl.out hn HT.out Hw.out).mono ?_; rintro e w1 ⟨rfl, rfl⟩)
    go_loopw [5, 6] (fun a i wr => ∃ k j : Nat, 1 ≤ k ∧ k ≤ n ∧ i = .int .i64 k ∧ a = .int .i64 j ∧ IsWorst ps k j ∧ Below w.heap.size w wr) (fun _ i _ => n - (intOf i).toNat)
    case atStart => exact ⟨1, 0, by omega, zs.1, rfl, rfl, IsWorst.one, Below.refl _ _⟩
    case round =>
      obtain ⟨k, j, hk1, hk, rfl, rfl, hz, hb⟩ := hrel
      have hjk := hz.1
      have Hz := Lib.hid hz; have Hb := Lib.hid hb
      clear hz hb
      by_cases hlt : k < n
      · obtain ⟨p, hp⟩ : ∃ p, ps[k]? = some p := ⟨_, List.getElem?_eq_getElem (by rw [Hl.out]; exact hlt)⟩
        obtain ⟨q, hq⟩ : ∃ q, ps[j]? = some q := ⟨_, List.getElem?_eq_getElem (by rw [Hl.out]; omega)⟩
        obtain ⟨c0, c1, c2⟩ := cells3 (rangeAt_of_block (Hc.out k p hp) (Hb.out.block b hbs))
        obtain ⟨d0, d1, d2⟩ := cells3 (rangeAt_of_block (Hc.out j q hq) (Hb.out.block b hbs))
        have ho := ord_rk (part_num (part_at H1.out (i := k) (by rw [Hl.out]; exact hlt))) (part_num (part_at H1.out (i := j) (by rw [Hl.out]; omega)))
        rw [lossAt_of hp, lossAt_of hq] at ho
        have er : rkAt ps k = rk p.l := by unfold rkAt; rw [lossAt_of hp]
        have es : rkAt ps j = rk q.l := by unfold rkAt; rw [lossAt_of hq]
        have y0 : (0 : Int) ≤ (k : Int) := by omega
        have y1 : (k : Int) < (n : Int) := by omega
        have y2 : (0 : Int) ≤ (j : Int) := by omega
        have y3 : (j : Int) < (n : Int) := by omega
        clear hp hq c0 c1 d0 d1
        by_cases hg : rkAt ps j < rkAt ps k
        · have ho' : FloatKind.f32.format.order p.l q.l = some .gt := by rw [ho]; congr 1; exact Int.compare_eq_gt.2 (by omega)
          have N := Lib.hid (Hz.out.next hg)
          clear ho hg er es
          go_wp2_with fail
          go_quiet (fail)
          go_wp2
          have B9 := Lib.hid (below_drewN Hb.out nq)
          go_roundw
          case rel => exact ⟨k + 1, k, by omega, by omega, by go_num, rfl, N.out, B9.out⟩
          case measure => simp [intOf]; omega
        · have ho' : FloatKind.f32.format.order p.l q.l = some .lt ∨ FloatKind.f32.format.order p.l q.l = some .eq := by
            rw [ho]
            rcases (by omega : rk p.l < rk q.l ∨ rk p.l = rk q.l) with h | h
            · left; congr 1; exact Int.compare_eq_lt.2 h
            · right; congr 1; exact Int.compare_eq_eq.2 h
          have N := Lib.hid (Hz.out.stay hg)
          clear ho hg er es
          rcases ho' with ho | ho
          all_goals
            go_wp2_with fail
            go_quiet (fail)
            go_wp2
            have B9 := Lib.hid (below_drewN Hb.out nq)
            go_roundw
            case rel => exact ⟨k + 1, j, by omega, by omega, by go_num, rfl, N.out, B9.out⟩
            case measure => simp [intOf]; omega
      · have hkn : k = n := by omega
        subst hkn
        obtain ⟨q, hq⟩ : ∃ q, ps[j]? = some q := ⟨_, List.getElem?_eq_getElem (by rw [Hl.out]; omega)⟩
        obtain ⟨d0, d1, d2⟩ := cells3 (rangeAt_of_block (Hc.out j q hq) (Hb.out.block b hbs))
        have es := Lib.hid (lossAt_of hq)
        have y2 : (0 : Int) ≤ (j : Int) := by omega
        have y3 : (j : Int) < (k : Int) := by omega
        clear d0 d1 hq
        go_wp2_with fail
        go_quiet (fail)
        go_wp2
        go_ret3
        refine ⟨⟨j, by rw [Hl.out]; exact Hz.out, ?_⟩, below_drewN Hb.out _⟩
        rw [es.out]
        rfl
  · simp only [h1, if_false, Bool.false_eq_true]
    go_enter Try.func10, Try.ntmps10
    go_wp2_with (go_at_call 35; refine (l01Ok_any _ _ _ ps _ Hl.out hn HT.out Hw.out).mono ?_; rintro e w1 ⟨rfl, rfl⟩)
    go_ret3
    exact ⟨rfl, Below.refl _ _⟩
theorem bits_callW (b : Nat) (w : World) : (callFunc 59 #[.float .f32 b]).run Try.prog w = .ok (.value (.int .u32 b)) w := by
  rw [run_callFunc_extern (fn := Try.f59) (e := Extern.MathFloatBits.float32bits) Try.func59 (by kernel_rfl) (by kernel_rfl) (by kernel_rfl) (by kernel_rfl)]
  rfl
attribute [local go_sem] bits_callW
theorem lossKey_any (l : Nat) (hp : partB l = true) (hl : l < 4294967296) (w : World) : Calls Try.prog 39 #[.float .f32 l] w fun e w' => e = .returned (.int .u32 (rk l)) ∧ w = w' := by
  have z0 : nan32 0 = false := by decide +kernel
  have r0 : rk 0 = 0 := by decide
  have ho := ord_rk (part_num hp) z0
  rw [r0] at ho
  have hr := part_rk hp
  by_cases h0 : rk l = 0
  · have ho' : FloatKind.f32.format.order l 0 = some .eq := by rw [ho]; congr 1; exact Int.compare_eq_eq.2 h0
    have H0 := Lib.hid h0
    clear ho h0 hr
    go_enter Try.func39, Try.ntmps39
    go_wp2
    go_ret
    exact ⟨by rw [H0.out]; rfl, rfl⟩
  · have ho' : FloatKind.f32.format.order l 0 = some .gt := by rw [ho]; congr 1; exact Int.compare_eq_gt.2 (by omega)
    have H0 := Lib.hid (part_word hl (by omega))
    clear ho h0 hr
    go_enter Try.func39, Try.ntmps39
    go_wp2
    go_ret
    exact ⟨by rw [← H0.out]; rfl, rfl⟩
def kOf (ps : List Pr) (j : Nat) : Lit := .int .u32 (rkAt ps j)
/-- What the map of the first k pairs holds. -/
structure FW (ps : List Pr) (k : Nat) (D : DataW Unit) : Prop where
  map : IsMap D
  all : ∀ j, j < k → has D (kOf ps j) = true
  first : ∀ z, has D z = true → ∃ j, j < k ∧ z = kOf ps j ∧ (∀ i, i < j → kOf ps i ≠ kOf ps j) ∧ ∀ z0, D.atKey z z0 = .lit (.int .i64 j)
theorem kOf_key (ps : List Pr) (j : Nat) : WideAt.IsKeyLit (kOf ps j) := by unfold kOf; trivial
theorem FW.zero (ps : List Pr) : FW ps 0 (.map []) := ⟨isMap_empty, fun j h => absurd h (by omega), fun z h => by simp [has] at h⟩
theorem FW.stay {ps : List Pr} {k : Nat} {D : DataW Unit} (h : FW ps k D) (hk : has D (kOf ps k) = true) : FW ps (k + 1) D :=
  ⟨h.map, fun j hj => by
    rcases (by omega : j < k ∨ j = k) with x | rfl
    · exact h.all j x
    · exact hk, fun z hz => by
    obtain ⟨j, h1, h2⟩ := h.first z hz
    exact ⟨j, by omega, h2⟩⟩
theorem FW.put {ps : List Pr} {k : Nat} {D : DataW Unit} (h : FW ps k D) (hk : has D (kOf ps k) = false) : FW ps (k + 1) (D.put (kOf ps k) (.lit (.int .i64 k))) := by
  refine ⟨IsMap.put h.map _ _, fun j hj => ?_, fun z hz => ?_⟩
  · rcases (by omega : j < k ∨ j = k) with x | rfl
    · by_cases e : kOf ps j = kOf ps k
      · rw [e]; exact has_put_same h.map (kOf_key _ _) _
      · rw [has_put_other e]; exact h.all j x
    · exact has_put_same h.map (kOf_key _ _) _
  · by_cases e : z = kOf ps k
    · subst e
      refine ⟨k, by omega, rfl, fun i hi hc => ?_, fun z0 => atKey_put_same h.map (kOf_key _ _) _ _⟩
      have := h.all i hi
      rw [hc, hk] at this
      cases this
    · rw [has_put_other e] at hz
      obtain ⟨j, h1, h2, h3, h4⟩ := h.first z hz
      exact ⟨j, by omega, h2, h3, fun z0 => by rw [atKey_put_other e]; exact h4 z0⟩
end Go.Proofs.Ytolbacgfcobmdaa
