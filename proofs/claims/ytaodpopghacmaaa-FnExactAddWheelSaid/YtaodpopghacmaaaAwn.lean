/-
  The wheel that is best added: what the model finds is what the program finds.
-/
import Derived.Test.YtaodpopghacmaaaAwa
namespace Go.Proofs.Ytaodpopghacmaaa
open Go.RowKit Go.ChangeShapes Go.WideShapes Go.Deep
set_option linter.unusedVariables false
set_option linter.unusedSimpArgs false
theorem okZ_lt {zs : List Int} (hz : okZ zs = true) : ∀ d i, i + d + 1 < zs.length → zs.getD i 0 < zs.getD (i + d + 1) 0
  | 0, i, h => by
    have h1 := (okZ_at hz).2 (i + 1) (by omega)
    unfold okAt at h1
    have := h1.2
    simpa using this
  | d + 1, i, h => by
    have h1 := okZ_lt hz d i (by omega)
    have h2 := okZ_lt hz 0 (i + d + 1) (by omega)
    have e : i + d + 1 + 0 + 1 = i + (d + 1) + 1 := by omega
    rw [e] at h2
    omega
theorem okZ_nodup {zs : List Int} (hz : okZ zs = true) : zs.Nodup := by
  refine List.pairwise_iff_getElem.2 fun i j hi hj hij e => ?_
  have h := okZ_lt hz (j - i - 1) i (by omega)
  rw [show i + (j - i - 1) + 1 = j by omega, getD_of (List.getElem?_eq_getElem hi), getD_of (List.getElem?_eq_getElem hj), e] at h
  omega
/-- The list with one wheel more, put in at place j. -/
def insZ (zs : List Int) (j : Nat) (T : Int) : List Int := zs.take j ++ [T] ++ zs.drop j
theorem ins_perm (zs : List Int) (j : Nat) (T : Int) : (insZ zs j T).Perm (zs ++ [T]) := by
  unfold insZ
  have h1 : (zs.take j ++ [T] ++ zs.drop j).Perm ([T] ++ (zs.take j ++ zs.drop j)) := by
    rw [← List.append_assoc]
    exact List.Perm.append_right _ List.perm_append_comm
  rw [List.take_append_drop] at h1
  exact h1.trans List.perm_append_comm
theorem ins_len (zs : List Int) (j : Nat) (T : Int) : (insZ zs j T).length = zs.length + 1 := by rw [(ins_perm zs j T).length_eq]; simp
theorem snoc_nodup {zs : List Int} {T : Int} (h : zs.Nodup) (hT : ¬ T ∈ zs) : (zs ++ [T]).Nodup := by
  refine List.pairwise_append.2 ⟨h, List.pairwise_singleton _ _, fun a ha b hb => ?_⟩
  simp at hb
  subst hb
  exact fun e => hT (e ▸ ha)
theorem te_of_mem {xs : List Int} (h : 2 ≤ xs.length ∧ xs.length ≤ 24) (k : ∀ a ∈ xs, 6 ≤ a ∧ a ≤ 200) : TeZ xs := ⟨h, fun i z hz => k z (List.mem_of_getElem? hz)⟩
theorem te_ins {zs : List Int} (hz : okZ zs = true) (hn : zs.length < 24) {T : Int} (h1 : 6 ≤ T) (h2 : T ≤ 200) (j : Nat) : TeZ (insZ zs j T) := by
  have h := te_snoc hz hn h1 h2
  refine te_of_mem (by rw [ins_len]; have := h.1; simp at this; omega) fun a ha => ?_
  have ha' := (ins_perm zs j T).mem_iff.1 ha
  obtain ⟨i, hi⟩ := List.getElem?_of_mem ha'
  exact h.2 i a hi
theorem num_max : NumS 2139095039 := ⟨by decide +kernel, by decide⟩
def offI (zs : List Int) (t : Nat) (p : Nat × Nat) : Nat := offC (quoT (zs.getD p.1 0) (zs.getD p.2 0)) t
theorem offI_el {xs : List Int} {t i j : Nat} {a b : Int} (hi : xs[i]? = some a) (hj : xs[j]? = some b) : offI xs t (i, j) = elO t a b := by
  unfold offI elO
  dsimp only
  rw [getD_of hi, getD_of hj]
theorem ls_same {zs : List Int} {t : Nat} (hz : okZ zs = true) (hn : zs.length < 24) (ht : tgB t = true) (ht2 : t < 4294967296) {T : Int} (h1 : 6 ≤ T) (h2 : T ≤ 200) (hT : ¬ T ∈ zs) (j : Nat) :
    (bestF (offI (insZ zs j T) t) (prU (zs.length + 1) (zs.length + 1) 0) ((0, 1), offI (insZ zs j T) t (0, 1))).2 = lsP zs t T ∧ NumS (lsP zs t T) := by
  have te1 := te_snoc hz hn h1 h2
  have te2 := te_ins hz hn h1 h2 j
  have nd1 := snoc_nodup (okZ_nodup hz) hT
  have nd2 : (insZ zs j T).Nodup := (ins_perm zs j T).nodup_iff.2 nd1
  have l1 : (zs ++ [T]).length = zs.length + 1 := by simp
  have l2 := ins_len zs j T
  have p1 := lv_of (off := offP (zs ++ [T]) t) te1 nd1 ht ht2 (fun i j a b hi hj => offI_el hi hj) (s := ((0, 0), 2139095039)) num_max (.inl rfl)
  have h01 : NumS (offI (insZ zs j T) t (0, 1)) := by
    obtain ⟨x0, a0⟩ : ∃ x, (insZ zs j T)[0]? = some x := ⟨_, List.getElem?_eq_getElem (show 0 < (insZ zs j T).length by have := te2.1; omega)⟩
    obtain ⟨x1, a1⟩ : ∃ x, (insZ zs j T)[1]? = some x := ⟨_, List.getElem?_eq_getElem (show 1 < (insZ zs j T).length by have := te2.1; omega)⟩
    rw [offI_el a0 a1]
    have := elO_num (te2.2 _ _ a0) (te2.2 _ _ a1) ht ht2
    exact ⟨this.2.1, this.1⟩
  have p2 := lv_of (off := offI (insZ zs j T) t) te2 nd2 ht ht2 (fun i j a b hi hj => offI_el hi hj) (s := ((0, 1), offI (insZ zs j T) t (0, 1))) h01 (.inr rfl)
  rw [l1] at p1
  rw [l2] at p2
  exact ⟨LV.same p2.1 p1.1 (fun a => (ins_perm zs j T).mem_iff), p1.2⟩
/-- The model's best wheel of the first k. -/
def amS (zs : List Int) (t : Nat) : Nat → Int × Nat
  | 0 => (-1, 0)
  | k + 1 => if (6 + (k : Int)) ∈ zs then amS zs t k else if decide ((amS zs t k).1 < 0) || oLt (lsP zs t (6 + (k : Int))) (amS zs t k).2 then (6 + (k : Int), lsP zs t (6 + (k : Int))) else amS zs t k
theorem amS_in {zs : List Int} {t k : Nat} (h : (6 + (k : Int)) ∈ zs) : amS zs t (k + 1) = amS zs t k := by rw [amS, if_pos h]
theorem amS_out {zs : List Int} {t k : Nat} (h : ¬ (6 + (k : Int)) ∈ zs) : amS zs t (k + 1) = if decide ((amS zs t k).1 < 0) || oLt (lsP zs t (6 + (k : Int))) (amS zs t k).2 then (6 + (k : Int), lsP zs t (6 + (k : Int))) else amS zs t k := by rw [amS, if_neg h]
theorem all_in : ∀ (m : Nat) (zs : List Int), (∀ k : Nat, k < m → 6 + (k : Int) ∈ zs) → m ≤ zs.length
  | 0, _, _ => Nat.zero_le _
  | m + 1, zs, h => by
    have h1 := h m (by omega)
    have h2 := all_in m (zs.erase (6 + (m : Int))) (fun k hk => (List.mem_erase_of_ne (by omega)).2 (h k (by omega)))
    rw [List.length_erase_of_mem h1] at h2
    have := List.length_pos_of_mem h1
    omega
theorem am_aw {zs : List Int} {t : Nat} (hz : okZ zs = true) (hn : zs.length < 24) (ht : tgB t = true) (ht2 : t < 4294967296) : ∀ k, k ≤ 195 →
    ((amS zs t k = (-1, 0) ∧ awS zs t k = (0, 2139095039) ∧ ∀ i : Nat, i < k → 6 + (i : Int) ∈ zs) ∨ (amS zs t k = awS zs t k ∧ 6 ≤ (amS zs t k).1))
  | 0, _ => .inl ⟨rfl, rfl, fun _ h => absurd h (by omega)⟩
  | k + 1, hk => by
    have ih := am_aw hz hn ht ht2 k (by omega)
    by_cases hm : (6 + (k : Int)) ∈ zs
    · rw [amS_in hm, awS_in hm]
      rcases ih with ⟨a, b, c⟩ | h
      · refine .inl ⟨a, b, fun i hi => ?_⟩
        rcases (by omega : i < k ∨ i = k) with h | rfl
        · exact c i h
        · exact hm
      · exact .inr h
    · rw [amS_out hm, awS_out hm]
      have hnum := (ls_same hz hn ht ht2 (T := 6 + (k : Int)) (by omega) (by omega) hm 0).2
      rcases ih with ⟨a, b, c⟩ | ⟨a, b⟩
      · rw [a, b]
        have hlt : oLt (lsP zs t (6 + (k : Int))) 2139095039 = true := by
          have h195 : lsP zs t (6 + (k : Int)) ≤ 2139095039 := by
            have := best_least (off := offP (zs ++ [6 + (k : Int)]) t) [] ((0, 0), 2139095039) (fun _ h => nomatch h) num_max
            have te := te_snoc hz hn (T := 6 + (k : Int)) (by omega) (by omega)
            have nd := snoc_nodup (okZ_nodup hz) hm
            have l1 : (zs ++ [6 + (k : Int)]).length = zs.length + 1 := by simp
            have p := (lv_of (off := offP (zs ++ [6 + (k : Int)]) t) te nd ht ht2 (fun i j a b hi hj => offI_el hi hj) (s := ((0, 0), 2139095039)) num_max (.inl rfl)).1
            rw [l1] at p
            obtain ⟨⟨x, y, hx, hy, _, e⟩, _⟩ := p
            obtain ⟨i, hi⟩ := List.getElem?_of_mem hx
            obtain ⟨j, hj⟩ := List.getElem?_of_mem hy
            have := (elO_num (te.2 _ _ hi) (te.2 _ _ hj) ht ht2).2.2
            unfold lsP
            omega
          rcases Nat.lt_or_ge (lsP zs t (6 + (k : Int))) 2139095039 with h | h
          · rw [lt_small hnum.1 num_max.1 hnum.2 num_max.2]
            exact decide_eq_true h
          · exfalso
            have te := te_snoc hz hn (T := 6 + (k : Int)) (by omega) (by omega)
            have nd := snoc_nodup (okZ_nodup hz) hm
            have l1 : (zs ++ [6 + (k : Int)]).length = zs.length + 1 := by simp
            have p := (lv_of (off := offP (zs ++ [6 + (k : Int)]) t) te nd ht ht2 (fun i j a b hi hj => offI_el hi hj) (s := ((0, 0), 2139095039)) num_max (.inl rfl)).1
            rw [l1] at p
            obtain ⟨⟨x, y, hx, hy, _, e⟩, _⟩ := p
            obtain ⟨i, hi⟩ := List.getElem?_of_mem hx
            obtain ⟨j, hj⟩ := List.getElem?_of_mem hy
            have tx := te.2 _ _ hi
            have ty := te.2 _ _ hj
            have h2 := (off_facts (quoT_rg tx.1 tx.2 ty.1 ty.2) ht).1.2.1
            have h3 := (elO_num tx ty ht ht2).1
            unfold elO at e h3
            rw [rg_small h3] at h2
            unfold lsP at h
            omega
        rw [hlt]
        refine .inr ⟨by simp, by simp; omega⟩
      · rw [← a]
        have : decide ((amS zs t k).1 < 0) = false := decide_eq_false (by omega)
        rw [this, Bool.false_or]
        refine .inr ⟨rfl, ?_⟩
        split
        · show 6 ≤ 6 + (k : Int); omega
        · exact b
theorem am_end {zs : List Int} {t : Nat} (hz : okZ zs = true) (hn : zs.length < 24) (ht : tgB t = true) (ht2 : t < 4294967296) : amS zs t 195 = awS zs t 195 := by
  rcases am_aw hz hn ht ht2 195 (Nat.le_refl _) with ⟨_, _, c⟩ | h
  · have := all_in 195 zs c
    omega
  · exact h.1
end Go.Proofs.Ytaodpopghacmaaa
