/-
  PlayAt and PlaysAlong: both sides.
-/
import Derived.Test.YtndmkfmfphgckaaPlc
import Derived.Test.YtndmkfmfphgckaaPld
namespace Go.Proofs.Ytndmkfmfphgckaa
open Go.RowKit Go.ChangeShapes Go.WideShapes Go.Deep
attribute [local go_sem ↓] Go.wp_at_zero Go.wp_at_succ
set_option linter.unusedVariables false
set_option linter.unusedSimpArgs false
set_option maxRecDepth 100000
theorem codeL_cases {ps : List Px} {ls : List (List Nat)} {K : Int} (h : codeL ps ls = K) : K = 0 ∨ K = 1 ∨ K = 2 := by
  subst h
  unfold codeL
  split
  · split <;> simp
  · simp
theorem codeL_zero {ps : List Px} {ls : List (List Nat)} (h : codeL ps ls = 0) : okTr ps = true ∧ ∀ fs ∈ ls, fs.length = ps.length := by
  unfold codeL at h
  cases h1 : okTr ps <;> rw [h1] at h <;> simp only [if_true, if_false, Bool.false_eq_true] at h
  · cases h
  · cases h2 : allPl ps.length ls <;> rw [h2] at h <;> simp only [if_true, if_false, Bool.false_eq_true] at h
    · cases h
    · refine ⟨rfl, fun fs hf => ?_⟩
      unfold allPl at h2
      have := List.all_eq_true.1 h2 fs hf
      unfold okPl at this
      simp only [Bool.and_eq_true, decide_eq_true_eq] at this
      exact this.2
/-- The play behind the last pair. -/
def lastP (ps : List Px) (fs : List Nat) : Nat := sN (pF fs) (qF ps) (ps.length - 1)
theorem fvs_one (w : World) (x : Fv) (t : TypeId) : Fvs (w.alloc (.cells #[.slice x.A x.n x.c] t)) w.heap.size [x] := by
  refine ⟨by simp, fun i y hy => ?_⟩
  match i, hy with
  | 0, hy => simp at hy; subst hy; exact cell_of_row _ _ 0 _ _ _ (heap_alloc_new w _)
theorem fvs_two (w : World) (x y : Fv) (t : TypeId) : Fvs (w.alloc (.cells #[.slice x.A x.n x.c, .slice y.A y.n y.c] t)) w.heap.size [x, y] := by
  refine ⟨by simp, fun i z hz => ?_⟩
  match i, hz with
  | 0, hz => simp at hz; subst hz; exact cell_of_row _ _ 0 _ _ _ (heap_alloc_new w _)
  | 1, hz => simp at hz; subst hz; exact cell_of_row _ _ 1 _ _ _ (heap_alloc_new w _)
theorem flc_of_frw {cs : List Nat} {w w' : World} {v : Value} {fs : List Nat} (hr : w'.ownsRow w.heap.size 22 1 v fs.length (fs.map (Value.float .f32))) (hc : fs.map cn = cs) (hb : Below w.heap.size w w') : FLC cs 0 w (.returned (.tuple #[v, .int .i64 0])) w' := by
  subst hc
  exact flc_of_row hr hb
def alongT (ps : List Px) (fs : List Nat) : List Nat := if codeL ps [fs] = 0 then sumL fs ps else []
theorem alongT_le (ps : List Px) (fs : List Nat) : (alongT ps fs).length ≤ 8 := by
  unfold alongT
  split
  · rename_i h
    have := (size_bounds (codeL_zero h).1).2
    unfold sumL
    simpa using this
  · simp
set_option maxHeartbeats 2000000 in
theorem specPlayAt_any (A A' : Option Addr) (n n' c c' : Nat) (ps : List Px) (fs : List Nat) (w : World) (hl : ps.length = n) (hl' : fs.length = n') (hn : n ≤ 1048576) (hn' : n' ≤ 1048576) (hT : Px.L w w.heap.size A ps) (hw : ∀ p ∈ ps, p.wf) (hT' : Fo w w.heap.size A' fs) :
    Calls Try.prog 33 #[.slice A n c, .slice A' n' c'] w (RFC (if codeL ps [fs] = 0 then lastP ps fs else cn 0) (codeL ps [fs]) w) := by
  obtain ⟨K, hK⟩ : ∃ K, codeL ps [fs] = K := ⟨_, rfl⟩
  have ha := l06Asked_any A A' n n' c c' ps fs w hl hl' hn hn' hT hw hT'
  rw [hK] at ha
  have HK := Lib.hid (codeL_cases hK)
  have H0 := Lib.hid (fun h : K = 0 => codeL_zero (hK.trans h))
  have HA := Lib.hid ha
  have Hl := Lib.hid hl; have Hl' := Lib.hid hl'; have HT := Lib.hid hT; have HT' := Lib.hid hT'
  rw [hK]
  obtain ⟨L, hL⟩ : ∃ L, (if K = 0 then lastP ps fs else cn 0) = L := ⟨_, rfl⟩
  rw [hL]
  have L0 := Lib.hid (fun h : K = 0 => show L = lastP ps fs by rw [← hL, if_pos h])
  have L1 := Lib.hid (fun h : K ≠ 0 => show L = cn 0 by rw [← hL, if_neg h])
  clear ha hK hl hl' hT hT' hw hL
  go_enter Try.func33, Try.ntmps33
  go_wp2_with fail
  refine HA.out.mono ?_
  rintro e w1 ⟨rfl, rfl⟩
  have B1 : Hid (Below w.heap.size w w) := Below.refl _ _
  rcases HK.out with rfl | rfl | rfl
  · obtain ⟨ho, hfs⟩ := H0.out rfl
    have hsz := size_bounds ho
    have hnn : n' = n := by rw [← Hl'.out, ← Hl.out]; exact hfs fs (by simp)
    have h1n : 1 ≤ n := by rw [← Hl.out]; exact hsz.1
    subst hnn
    clear ho hfs hsz
    have hlast : lastP ps fs = sN (pF fs) (qF ps) (n' - 1) := by unfold lastP; rw [Hl.out]
    have HL := Lib.hid hlast; clear hlast
    go_wp2_with fail
    refine (l06Last_any _ _ n' _ _ ps fs _ Hl.out Hl'.out h1n hn (HT.out.keep B1.out) (HT'.out.keep B1.out)).mono ?_
    rintro e w2 ⟨r, rfl, hr, b2⟩
    have Hr := Lib.hid hr
    have B2 : Hid (Below w.heap.size w w2) := b_then B1.out b2
    clear hr b2
    go_wp2
    go_ret2
    refine ⟨_, rfl, ?_, B2.out⟩
    rw [L0.out (by trivial), HL.out]
    exact Hr.out
  all_goals
    go_wp2
    go_ret2
    refine ⟨_, rfl, ?_, B1.out⟩
    rw [L1.out (by first | trivial | decide)]
    exact cn_lit _
set_option maxHeartbeats 2000000 in
theorem implPlayAt_any (A A' : Option Addr) (n n' c c' : Nat) (ps : List Px) (fs : List Nat) (w : World) (hl : ps.length = n) (hl' : fs.length = n') (hn : n ≤ 1048576) (hn' : n' ≤ 1048576) (hT : Px.L w w.heap.size A ps) (hw : ∀ p ∈ ps, p.wf) (hT' : Fo w w.heap.size A' fs) :
    Calls Try.prog 36 #[.slice A n c, .slice A' n' c'] w (RFC (if codeL ps [fs] = 0 then lastP ps fs else cn 0) (codeL ps [fs]) w) := by
  obtain ⟨K, hK⟩ : ∃ K, codeL ps [fs] = K := ⟨_, rfl⟩
  have hb0 : Below w.heap.size w (w.alloc (.cells #[.slice A' n' c'] 45)) := b_alloc (Below.refl _ _) _
  have ha := playsError_any A n c ps w.heap.size 1 1 [⟨A', n', c', fs⟩] _ hl rfl hn (by omega) (hT.keep hb0) hw (fvs_one w ⟨A', n', c', fs⟩ 45) (fun x hx => by simp at hx; subst hx; exact ⟨hl', hn', hT'.keep hb0⟩)
  clear hb0
  rw [show [(⟨A', n', c', fs⟩ : Fv)].map (·.fs) = [fs] from rfl, hK] at ha
  have HK := Lib.hid (codeL_cases hK)
  have H0 := Lib.hid (fun h : K = 0 => codeL_zero (hK.trans h))
  have HA := Lib.hid ha
  have Hl := Lib.hid hl; have Hl' := Lib.hid hl'; have HT := Lib.hid hT; have HT' := Lib.hid hT'
  rw [hK]
  obtain ⟨L, hL⟩ : ∃ L, (if K = 0 then lastP ps fs else cn 0) = L := ⟨_, rfl⟩
  rw [hL]
  have L0 := Lib.hid (fun h : K = 0 => show L = lastP ps fs by rw [← hL, if_pos h])
  have L1 := Lib.hid (fun h : K ≠ 0 => show L = cn 0 by rw [← hL, if_neg h])
  clear ha hK hl hl' hT hT' hw hL
  go_enter Try.func36, Try.ntmps36
  go_wp2_with fail
  refine HA.out.mono ?_
  rintro e w1 ⟨rfl, b1⟩
  have B1 : Hid (Below w.heap.size w w1) := b_then (b_alloc (Below.refl _ _) _) b1
  clear b1
  rcases HK.out with rfl | rfl | rfl
  · obtain ⟨ho, hfs⟩ := H0.out rfl
    have hsz := size_bounds ho
    have hnn : n' = n := by rw [← Hl'.out, ← Hl.out]; exact hfs fs (by simp)
    have h1n : 1 ≤ n := by rw [← Hl.out]; exact hsz.1
    subst hnn
    clear ho hfs hsz
    have hlast : lastP ps fs = sN (pF fs) (qF ps) (n' - 1) := by unfold lastP; rw [Hl.out]
    have HL := Lib.hid hlast; clear hlast
    go_wp2_with fail
    refine (playAt_any _ _ n' _ _ ps fs _ Hl.out Hl'.out h1n hn (HT.out.keep B1.out) (HT'.out.keep B1.out)).mono ?_
    rintro e w2 ⟨r, rfl, hr, b2⟩
    have Hr := Lib.hid hr
    have B2 : Hid (Below w.heap.size w w2) := b_then B1.out b2
    clear hr b2
    go_wp2
    go_ret2
    refine ⟨_, rfl, ?_, B2.out⟩
    rw [L0.out (by trivial), HL.out]
    exact Hr.out
  all_goals
    go_wp2
    go_ret2
    refine ⟨_, rfl, ?_, B1.out⟩
    rw [L1.out (by first | trivial | decide)]
    exact cn_lit _
set_option maxHeartbeats 2000000 in
theorem specAlong_any (A A' : Option Addr) (n n' c c' : Nat) (ps : List Px) (fs : List Nat) (w : World) (hl : ps.length = n) (hl' : fs.length = n') (hn : n ≤ 1048576) (hn' : n' ≤ 1048576) (hT : Px.L w w.heap.size A ps) (hw : ∀ p ∈ ps, p.wf) (hT' : Fo w w.heap.size A' fs) :
    Calls Try.prog 39 #[.slice A n c, .slice A' n' c'] w (FLC (alongT ps fs) (codeL ps [fs]) w) := by
  obtain ⟨K, hK⟩ : ∃ K, codeL ps [fs] = K := ⟨_, rfl⟩
  have ha := l06Asked_any A A' n n' c c' ps fs w hl hl' hn hn' hT hw hT'
  rw [hK] at ha
  have HK := Lib.hid (codeL_cases hK)
  have H0 := Lib.hid (fun h : K = 0 => codeL_zero (hK.trans h))
  have HA := Lib.hid ha
  have Hl := Lib.hid hl; have Hl' := Lib.hid hl'; have HT := Lib.hid hT; have HT' := Lib.hid hT'
  unfold alongT
  rw [hK]
  obtain ⟨L, hL⟩ : ∃ L, (if K = 0 then sumL fs ps else []) = L := ⟨_, rfl⟩
  rw [hL]
  have L0 := Lib.hid (fun h : K = 0 => show L = sumL fs ps by rw [← hL, if_pos h])
  have L1 := Lib.hid (fun h : K ≠ 0 => show L = [] by rw [← hL, if_neg h])
  clear ha hK hl hl' hT hT' hw hL
  go_enter Try.func39, Try.ntmps39
  go_wp2_with fail
  refine HA.out.mono ?_
  rintro e w1 ⟨rfl, rfl⟩
  have B1 : Hid (Below w.heap.size w w) := Below.refl _ _
  rcases HK.out with rfl | rfl | rfl
  · obtain ⟨ho, hfs⟩ := H0.out rfl
    have hnn : n' = n := by rw [← Hl'.out, ← Hl.out]; exact hfs fs (by simp)
    subst hnn
    clear ho hfs
    go_wp2_with fail
    refine (l06Along_any _ _ n' _ _ ps fs _ Hl.out Hl'.out hn (HT.out.keep B1.out) (HT'.out.keep B1.out)).mono ?_
    rintro e w2 ⟨v, hs, rfl, hr, hc, b2⟩
    have HR := Lib.hid (own_more hr B1.out.size)
    have Hc := Lib.hid hc
    have B2 : Hid (Below w.heap.size w w2) := b_then B1.out b2
    clear hr hc b2
    go_wp2
    go_ret2
    rw [L0.out (by trivial), show sumL fs ps = (List.range n').map (sN (pF fs) (qF ps)) by unfold sumL; rw [Hl.out]]
    exact flc_of_frw HR.out Hc.out B2.out
  all_goals
    go_wp2
    go_ret2
    rw [L1.out (by first | trivial | decide)]
    exact flc_of_row (fs := []) (own_empty _ _ _ _ B1.out.size) (b_alloc B1.out _)
set_option maxHeartbeats 2000000 in
theorem implAlong_any (A A' : Option Addr) (n n' c c' : Nat) (ps : List Px) (fs : List Nat) (w : World) (hl : ps.length = n) (hl' : fs.length = n') (hn : n ≤ 1048576) (hn' : n' ≤ 1048576) (hT : Px.L w w.heap.size A ps) (hw : ∀ p ∈ ps, p.wf) (hT' : Fo w w.heap.size A' fs) :
    Calls Try.prog 40 #[.slice A n c, .slice A' n' c'] w (FLC (alongT ps fs) (codeL ps [fs]) w) := by
  obtain ⟨K, hK⟩ : ∃ K, codeL ps [fs] = K := ⟨_, rfl⟩
  have hb0 : Below w.heap.size w (w.alloc (.cells #[.slice A' n' c'] 45)) := b_alloc (Below.refl _ _) _
  have ha := playsError_any A n c ps w.heap.size 1 1 [⟨A', n', c', fs⟩] _ hl rfl hn (by omega) (hT.keep hb0) hw (fvs_one w ⟨A', n', c', fs⟩ 45) (fun x hx => by simp at hx; subst hx; exact ⟨hl', hn', hT'.keep hb0⟩)
  clear hb0
  rw [show [(⟨A', n', c', fs⟩ : Fv)].map (·.fs) = [fs] from rfl, hK] at ha
  have HK := Lib.hid (codeL_cases hK)
  have H0 := Lib.hid (fun h : K = 0 => codeL_zero (hK.trans h))
  have HA := Lib.hid ha
  have Hl := Lib.hid hl; have Hl' := Lib.hid hl'; have HT := Lib.hid hT; have HT' := Lib.hid hT'
  unfold alongT
  rw [hK]
  obtain ⟨L, hL⟩ : ∃ L, (if K = 0 then sumL fs ps else []) = L := ⟨_, rfl⟩
  rw [hL]
  have L0 := Lib.hid (fun h : K = 0 => show L = sumL fs ps by rw [← hL, if_pos h])
  have L1 := Lib.hid (fun h : K ≠ 0 => show L = [] by rw [← hL, if_neg h])
  clear ha hK hl hl' hT hT' hw hL
  go_enter Try.func40, Try.ntmps40
  go_wp2_with fail
  refine HA.out.mono ?_
  rintro e w1 ⟨rfl, b1⟩
  have B1 : Hid (Below w.heap.size w w1) := b_then (b_alloc (Below.refl _ _) _) b1
  clear b1
  rcases HK.out with rfl | rfl | rfl
  · obtain ⟨ho, hfs⟩ := H0.out rfl
    have hnn : n' = n := by rw [← Hl'.out, ← Hl.out]; exact hfs fs (by simp)
    subst hnn
    clear ho hfs
    go_wp2_with fail
    refine (quotients_any _ n' _ ps _ Hl.out hn (HT.out.keep B1.out)).mono ?_
    rintro e w3 ⟨v, gs, rfl, hr, hc, b3⟩
    have hgl : gs.length = n' := by have := congrArg List.length hc; simpa using this
    obtain ⟨Ag, cg, rfl, hF, _⟩ := fo_of_own hr rfl
    have HF := Lib.hid hF; have HC := Lib.hid hc; have Hgl := Lib.hid hgl
    have B3 : Hid (Below w.heap.size w w3) := b_then B1.out b3
    clear hr hF hc hgl b3
    go_wp2_with fail
    rw [Hgl.out]
    refine (addedUp_any _ _ _ _ _ fs gs (qF ps) _ Hl'.out Hgl.out HC.out hn (HT'.out.keep B3.out) HF.out).mono ?_
    rintro e w2 ⟨v, hs, rfl, hr, hc, b2⟩
    have HR := Lib.hid (own_more hr B3.out.size)
    have Hc := Lib.hid hc
    have B2 : Hid (Below w.heap.size w w2) := b_then B3.out b2
    clear hr hc b2
    go_wp2
    go_ret2
    rw [L0.out (by trivial), show sumL fs ps = (List.range n').map (sN (pF fs) (qF ps)) by unfold sumL; rw [Hl.out]]
    exact flc_of_frw HR.out Hc.out B2.out
  all_goals
    go_wp2
    go_ret2
    rw [L1.out (by first | trivial | decide)]
    exact flc_of_row (fs := []) (World.ownsRow_nil _ _ _ _) B1.out
end Go.Proofs.Ytndmkfmfphgckaa
