/-
  A stone hour by hour, without a program: its grit stays a part; the flour of several hours is a number.
-/
import Derived.Test.YtjkgiknklkfipaaHo
import Derived.Test.YtjkgiknklkfipaaNn
namespace Go.Proofs.Ytjkgiknklkfipaa
open Go
set_option linter.unusedVariables false
set_option linter.unusedSimpArgs false
theorem loadC_cnS {S T : Sn} (h : cnS S = cnS T) (a b : Nat) : loadC S a b = loadC T a b := by
  unfold cnS at h
  injection h with h1 h2 h3 h4
  unfold loadC idleC
  rw [h1, h2, h3]
theorem sum1_cnS {S T : Sn} (h : cnS S = cnS T) (a b : Nat) : sumLd [S] a b = sumLd [T] a b := by
  unfold sumLd
  simp only [List.foldl]
  rw [loadC_cnS h]
theorem steady1_cnS {S T : Sn} (h : cnS S = cnS T) (t f k : Nat) : steadyC [S] t f k = steadyC [T] t f k := by
  unfold steadyC
  rw [show (fun m => sumLd [S] m f) = fun m => sumLd [T] m f from funext fun m => sum1_cnS h m f]
theorem hourF_cnS {S T : Sn} (h : cnS S = cnS T) (t f : Nat) : hourF S t f = hourF T t f := by
  unfold hourF
  rw [sum1_cnS h, steady1_cnS h]
  have h4 : cn S.g = cn T.g := by unfold cnS at h; injection h
  unfold flourC
  rw [h4]
theorem hourS_cnS {S T : Sn} (h : cnS S = cnS T) (t f : Nat) : hourS S t f = hourS T t f := by
  unfold hourS
  rw [sum1_cnS h, hourF_cnS h, h]
  unfold dulS
  unfold cnS at h
  injection h with h1 h2 h3 h4
  rw [h1, h2, h3, h4]
theorem cnS_hourS (S : Sn) (t f : Nat) : cnS (hourS S t f) = hourS S t f := by
  unfold hourS
  split
  · exact cnS_cnS S
  · unfold dulS cnS
    simp only [cn_cn, cn_leastW]
    rw [show cn (dulG (cn S.g) (cn (hourF S t f))) = dulG (cn S.g) (cn (hourF S t f)) from cn_f2 _ _ _]
/-- A rate, as a canonical word. -/
def rtN (f : Nat) : Prop := rg f ≤ 137 * 8388608 ∧ 0 ≤ rk f
def ptN (g : Nat) : Prop := rg g ≤ 127 * 8388608 ∧ 0 ≤ rk g
theorem rt_n {f : Nat} (h : rtB f = true) : rtN (cn f) := by
  refine ⟨rt_rg h, ?_⟩
  unfold rtB at h
  simp only [Bool.and_eq_true] at h
  obtain ⟨n, a, _, e⟩ := between h.1 h.2 (by decide) (by decide)
  rw [cn_of_not n]
  omega
theorem ok_n {S : Sn} (h : okS S = true) : ptN (cn S.g) := by
  refine ⟨ok_g h, ?_⟩
  unfold okS partB at h
  simp only [Bool.and_eq_true] at h
  obtain ⟨n, a, _, e⟩ := between h.2.2.2.1 h.2.2.2.2 (by decide) (by decide)
  rw [cn_of_not n]
  omega
theorem halv_nn {ld : Nat → Nat} {t : Nat} (k : Nat) {p : Nat × Nat} (h : rtN p.1 ∧ rtN p.2) : rtN (halvN ld t k p).1 ∧ rtN (halvN ld t k p).2 := by
  induction k with
  | zero => exact h
  | succ k ih =>
    have hm : rtN (f2 .quo (f2 .add (halvN ld t k p).1 (halvN ld t k p).2) (cn 1073741824)) := by
      have hk : cn 1073741824 = 1073741824 := cn_of_not (by decide +kernel)
      obtain ⟨⟨a1, n1⟩, a2, n2⟩ := ih
      obtain ⟨r1, e1, b1⟩ := sum_le' (A := 137) a1 a2 (by decide) (by decide)
      obtain ⟨r2, e2, b2⟩ := quo_pow (x := r1) (y := 1073741824) (A := 138) (B := 128) (C := 137) b1 (by decide) (by decide) (by decide) (by decide) (by decide) (by decide) (by decide) (by decide)
      have p1 := add_nn (A := 138) (B := 138) (by omega) (by omega) (by decide) (by decide) (by decide) (by decide) n1 n2 e1
      have p2 := quo_nn (A := 139) (B := 129) (by omega) (by decide) (by decide) (by decide) (by decide) (by decide) p1 (by decide) e2
      rw [f2_some e1, hk, f2_some e2]
      exact ⟨b2, p2⟩
    show rtN (halfStep ld t (halvN ld t k p)).1 ∧ rtN (halfStep ld t (halvN ld t k p)).2
    unfold halfStep
    split
    · exact ⟨ih.1, hm⟩
    · exact ⟨hm, ih.2⟩
theorem steady_n (ps : List Sn) (t fd k : Nat) : rtN (steadyC ps t fd k) := by
  refine (halv_nn k ⟨?_, ?_⟩).1
  · rw [cn_zero]; exact ⟨by decide, by decide⟩
  · rw [show cn 1149239296 = 1149239296 from cn_of_not (by decide +kernel)]; exact ⟨by decide, by decide⟩
theorem hourF_n {S : Sn} {t fd : Nat} (hg : ptN (cn S.g)) (hf : rtN (cn fd)) : 0 ≤ rk (hourF S t fd) := by
  unfold hourF
  split
  · rw [cn_zero]; decide
  · unfold capM
    split
    · decide
    · obtain ⟨s1, s2⟩ := steady_n [S] t fd 40
      obtain ⟨r1, e1, b1⟩ := mul_le' (A := 137) (B := 137) (C := 147) (x := cn (steadyC [S] t fd 40)) (y := cn fd) (by rw [cn_steadyC]; exact s1) hf.1 (by decide) (by decide) (by decide) (by decide) (by decide) (by decide) (by decide)
      obtain ⟨r2, e2, b2⟩ := mul_le' (A := 147) (B := 127) (C := 147) b1 hg.1 (by decide) (by decide) (by decide) (by decide) (by decide) (by decide) (by decide)
      have f1 := hf.1
      have g1 := hg.1
      have p1 := mul_nn (A := 138) (B := 138) (by rw [cn_steadyC]; omega) (by omega) (by decide) (by decide) (by decide) (by decide) (by rw [cn_steadyC]; exact s2) hf.2 e1
      have p2 := mul_nn (A := 148) (B := 128) (by omega) (by omega) (by decide) (by decide) (by decide) (by decide) p1 hg.2 e2
      unfold flourC
      rw [f2_some e1, f2_some e2]
      exact p2
theorem hour_g {S : Sn} {t fd : Nat} (hg : ptN (cn S.g)) (hf : rtN (cn fd)) : ptN (hourS S t fd).g := by
  unfold hourS
  split
  · exact hg
  · have F1 := hourF_rg (S := S) (t := t) (fd := fd) hg.1 hf.1
    have F2 := hourF_n (S := S) (t := t) (fd := fd) hg hf
    show ptN (leastW (dulG (cn S.g) (cn (hourF S t fd))))
    rw [hourF_cn]
    have hk : cn 1166016512 = 1166016512 := cn_of_not (by decide +kernel)
    have g1 := hg.1
    obtain ⟨r1, e1, b1⟩ := quo_pow (x := hourF S t fd) (y := 1166016512) (A := 147) (B := 139) (C := 135) F1 (by decide) (by decide) (by decide) (by decide) (by decide) (by decide) (by decide) (by decide)
    obtain ⟨r2, e2, b2⟩ := mul_le' (x := cn S.g) (y := r1) (A := 127) (B := 135) (C := 135) hg.1 b1 (by decide) (by decide) (by decide) (by decide) (by decide) (by decide) (by decide)
    obtain ⟨r3, e3, b3⟩ := sub_le' (x := cn S.g) (y := r2) (A := 135) (by omega) b2 (by decide) (by decide)
    have p1 := quo_nn (A := 148) (B := 140) (by omega) (by decide) (by decide) (by decide) (by decide) (by decide) F2 (by decide) e1
    have p2 := mul_nn (A := 128) (B := 136) (by omega) (by omega) (by decide) (by decide) (by decide) (by decide) hg.2 p1 e2
    have key := sub_keep (A := 127) (B := 136) hg.1 (by omega) (by decide) (by decide) (by decide) (by decide) hg.2 p2 e3
    unfold dulG
    rw [hk, f2_some e1, f2_some e2, f2_some e3]
    unfold leastW
    cases ho : oGt r3 0
    · simp only [Bool.false_eq_true, if_false]
      exact ⟨by decide, by decide⟩
    · rw [ho] at key
      simp only [if_true] at key ⊢
      refine ⟨key, ?_⟩
      rw [oGt_rk (floatBits_notNan e3) nan_zero] at ho
      have := of_decide_eq_true ho
      rw [show rk 0 = 0 from rfl] at this
      omega
/-- The stone behind k hours, and the sum of their flour. -/
def hrS (S : Sn) (t f : Nat) : Nat → Sn
  | 0 => cnS S
  | k + 1 => hourS (hrS S t f k) t f
def suC (S : Sn) (t f : Nat) : Nat → Nat
  | 0 => cn 0
  | k + 1 => f2 .add (suC S t f k) (hourF (hrS S t f k) t f)
theorem hrS_cn (S : Sn) (t f k : Nat) : cnS (hrS S t f k) = hrS S t f k := by
  cases k with
  | zero => exact cnS_cnS S
  | succ k => exact cnS_hourS _ _ _
theorem hrS_g {S : Sn} {t f : Nat} (hg : ptN (cn S.g)) (hf : rtN (cn f)) (k : Nat) : ptN (hrS S t f k).g := by
  induction k with
  | zero => exact hg
  | succ k ih =>
    refine hour_g ?_ hf
    have h := hrS_cn S t f k
    have : cn (hrS S t f k).g = (hrS S t f k).g := congrArg Sn.g h
    rw [this]
    exact ih
theorem suC_rg {S : Sn} {t f : Nat} (hg : ptN (cn S.g)) (hf : rtN (cn f)) (k : Nat) (hk : k ≤ 61) : nan32 (suC S t f k) = false ∧ rg (suC S t f k) ≤ (147 + k) * 8388608 := by
  induction k with
  | zero => exact ⟨by show nan32 (cn 0) = false; rw [cn_zero]; exact nan_zero, by show rg (cn 0) ≤ _; rw [cn_zero]; decide⟩
  | succ k ih =>
    obtain ⟨_, i2⟩ := ih (by omega)
    have h := hrS_cn S t f k
    have hg' : cn (hrS S t f k).g = (hrS S t f k).g := congrArg Sn.g h
    have F1 := hourF_rg (S := hrS S t f k) (t := t) (fd := f) (by rw [hg']; exact (hrS_g hg hf k).1) hf.1
    have F2 : rg (hourF (hrS S t f k) t f) ≤ (147 + k) * 8388608 := Nat.le_trans F1 (Nat.mul_le_mul_right _ (by omega))
    obtain ⟨r, e, b⟩ := sum_le' (A := 147 + k) (x := suC S t f k) (y := hourF (hrS S t f k) t f) i2 F2 (by omega) (by omega)
    show nan32 (f2 .add _ _) = false ∧ rg (f2 .add _ _) ≤ _
    rw [f2_some e]
    exact ⟨floatBits_notNan e, by rw [show 147 + (k + 1) = 147 + k + 1 by omega]; exact b⟩
theorem cn_suC (S : Sn) (t f k : Nat) : cn (suC S t f k) = suC S t f k := by
  cases k with
  | zero => exact cn_cn 0
  | succ k => exact cn_f2 _ _ _
theorem oLt_not {x y : Nat} (hx : nan32 x = false) (hy : nan32 y = false) : oLt x y = !oGe x y := by
  unfold oLt oGe
  rw [ord_rk hx hy]
  rcases Int.lt_trichotomy (rk x) (rk y) with h | h | h
  · rw [show compare (rk x) (rk y) = .lt from Int.compare_eq_lt.2 h]; rfl
  · rw [show compare (rk x) (rk y) = .eq from Int.compare_eq_eq.2 h]; rfl
  · rw [show compare (rk x) (rk y) = .gt from Int.compare_eq_gt.2 h]; rfl
/-- How many hours an amount takes: the first from k on, of so many that are tried. -/
def hrsR (S : Sn) (t f am : Nat) : Nat → Nat → Int × Int
  | 0, _ => (0, 6)
  | n + 1, k => if oGe (suC S t f k) am then ((k : Int), 0) else hrsR S t f am n (k + 1)
end Go.Proofs.Ytjkgiknklkfipaa
