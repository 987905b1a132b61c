/-
  All choices of four wheels: the model's list.
-/
import Derived.Test.YtaodpopghacmaaaChb
import Derived.Test.YtaodpopghacmaaaIpm
import Derived.Deep.RegionHeld3
namespace Go.Proofs.Ytaodpopghacmaaa
open Go.RowKit Go.ChangeShapes Go.WideShapes Go.Deep
attribute [local go_sem ↓] Go.wp_at_zero Go.wp_at_succ
set_option linter.unusedVariables false
set_option linter.unusedSimpArgs false
set_option maxRecDepth 100000
def cellsC (l : List ((Nat × Nat) × (Nat × Nat))) : List Value := (l.map fun x => (chK x).toList).flatten
theorem cellsC_snoc (l : List ((Nat × Nat) × (Nat × Nat))) (p : (Nat × Nat) × (Nat × Nat)) : cellsC (l ++ [p]) = cellsC l ++ (chK p).toList := by simp [cellsC]
theorem cellsC_len (l : List ((Nat × Nat) × (Nat × Nat))) : (cellsC l).length = l.length * 4 := by
  unfold cellsC
  induction l with
  | nil => rfl
  | cons x l ih =>
    rw [List.map_cons, List.flatten_cons, List.length_append, ih, List.length_cons]
    simp
    omega
theorem infoC : (Try.prog.info? 49).map (fun i => (i.zero, i.size, i.bytes)) = some (some (.agg #[.int .i16 0, .int .i16 0, .int .i16 0, .int .i16 0]), 4, 8) := by kernel_rfl
theorem own_emptyC (W : World) (base : Nat) (hb : base ≤ W.heap.size) : (W.alloc (.cells #[] 49)).ownsRow base 49 4 (.slice (some ⟨W.heap.size, 0, none⟩) 0 0) 0 (cellsC []) := own_empty W base 49 4 hb
/-- The choices that have come ahead of (a, b, c, d). -/
def Lm (n a b c d : Nat) : List ((Nat × Nat) × (Nat × Nat)) := chC (prU n n 0) (prU n a b) ++ (if a = b then [] else rowC (a, b) (prU n c d))
theorem Lm_yes {n a b c d : Nat} (h1 : ¬ a = b) (h2 : ¬ a = c) (h3 : ¬ a = d) (h4 : ¬ b = c) (h5 : ¬ b = d) (h6 : ¬ c = d) : Lm n a b c (d + 1) = Lm n a b c d ++ [((a, b), (c, d))] := by
  unfold Lm
  rw [if_neg h1, if_neg h1, prU_ne h6, rowC_yes (apt_yes h2 h3 h4 h5), List.append_assoc]
theorem Lm_no {n a b c d : Nat} (h : a = b ∨ a = c ∨ a = d ∨ b = c ∨ b = d ∨ c = d) : Lm n a b c (d + 1) = Lm n a b c d := by
  unfold Lm
  by_cases h1 : a = b
  · rw [if_pos h1, if_pos h1]
  · rw [if_neg h1, if_neg h1]
    by_cases h6 : c = d
    · rw [h6, prU_eq]
    · rw [prU_ne h6, rowC_no (apt_no (by rcases h with h | h | h | h | h | h <;> simp_all))]
theorem Lm_c (n a b c : Nat) : Lm n a b (c + 1) 0 = Lm n a b c n := by unfold Lm; rw [prU_next]
theorem Lm_b (n a b : Nat) : Lm n a (b + 1) 0 0 = Lm n a b n 0 := by
  have e : ∀ x y, Lm n x y 0 0 = chC (prU n n 0) (prU n x y) := fun x y => by
    unfold Lm
    have : prU n 0 0 = [] := rfl
    rw [this, rowC_nil]
    split <;> simp
  rw [e]
  unfold Lm
  by_cases h : a = b
  · rw [if_pos h, h, prU_eq, List.append_nil]
  · rw [if_neg h, prU_ne h, chC_snoc]
theorem Lm_zero (n a b : Nat) : Lm n a b 0 0 = chC (prU n n 0) (prU n a b) := by
  unfold Lm
  have : prU n 0 0 = [] := rfl
  rw [this, rowC_nil]
  split <;> simp
theorem Lm_a (n a : Nat) : Lm n (a + 1) 0 0 0 = Lm n a n 0 0 := by rw [Lm_zero, Lm_zero, prU_next]
theorem Lm_all (n : Nat) : Lm n n 0 0 0 = chU n := by rw [Lm_zero]; rfl
theorem Lm_start (n : Nat) : Lm n 0 0 0 0 = [] := by rw [Lm_zero]; rfl
theorem Lm_len {n a b c d : Nat} (hn : n ≤ 24) (ha : a < n) (hb : b < n) (hc : c < n) (hd : d ≤ n) : (Lm n a b c d).length ≤ 332352 := by
  unfold Lm
  have h1 := chC_len (prU_576 hn) (prU n a b)
  have h2 := (prU_pre ha (Nat.le_of_lt hb)).length_le
  have h3 := prU_576 hn
  have h4 := (prU_pre hc hd).length_le
  have h5 := rowC_len (a, b) (prU n c d)
  rw [List.length_append]
  have h6 : (if a = b then [] else rowC (a, b) (prU n c d)).length ≤ 576 := by
    split
    · exact Nat.zero_le _
    · omega
  omega
/-- The list, in a row of one's own. -/
def RoC (w : World) (L : List ((Nat × Nat) × (Nat × Nat))) (v : Value) (W : World) : Prop := W.ownsRow w.heap.size 49 4 v L.length (cellsC L) ∧ Below w.heap.size w W
def RCs (L : List ((Nat × Nat) × (Nat × Nat))) (w : World) (e : Ending) (w' : World) : Prop := ∃ v, e = .returned v ∧ w'.ownsRow w.heap.size 49 4 v L.length (cellsC L) ∧ Below w.heap.size w w'
set_option maxHeartbeats 8000000 in
theorem l05Choices_any (n : Nat) (hn24 : n ≤ 24) (w : World) : Calls Try.prog 69 #[.int .i16 n] w (RCs (chU n) w) := by
  obtain ⟨i0, hi0, hz0, hz1, hz2⟩ := info_parts infoC
  go_enter Try.func69, Try.ntmps69
  go_wp2
  go_loopw [3, 4, 5, 6, 7] (fun v3 v4 _ _ _ wr0 => ∃ (a : Nat), a ≤ n ∧ v4 = .int .i16 a ∧ Hid (RoC w (Lm n a 0 0 0) v3 wr0)) (fun _ v4 _ _ _ _ => n - (intOf v4).toNat)
  case atStart => exact ⟨0, Nat.zero_le _, rfl, Lib.hid ⟨by rw [Lm_start]; exact own_emptyC w _ (Nat.le_refl _), b_alloc (Below.refl _ _) _⟩⟩
  case round =>
    obtain ⟨a, ha, rfl, hR0⟩ := hrel
    by_cases la : a < n
    · have ia : (a : Int) < (n : Int) := by omega
      go_wp2_with fail
      go_loopw [3, 5, 6, 7] (fun v3 v5 _ _ wr1 => ∃ (b : Nat), b ≤ n ∧ v5 = .int .i16 b ∧ Hid (RoC w (Lm n a b 0 0) v3 wr1)) (fun _ v5 _ _ _ => n - (intOf v5).toNat)
      case atStart => exact ⟨0, Nat.zero_le _, rfl, hR0⟩
      case round =>
        obtain ⟨b, hb, rfl, hR1⟩ := hrel
        by_cases lb : b < n
        · have ib : (b : Int) < (n : Int) := by omega
          go_wp2_with fail
          go_loopw [3, 6, 7] (fun v3 v6 _ wr2 => ∃ (c : Nat), c ≤ n ∧ v6 = .int .i16 c ∧ Hid (RoC w (Lm n a b c 0) v3 wr2)) (fun _ v6 _ _ => n - (intOf v6).toNat)
          case atStart => exact ⟨0, Nat.zero_le _, rfl, hR1⟩
          case round =>
            obtain ⟨c, hc, rfl, hR2⟩ := hrel
            by_cases lc : c < n
            · have ic : (c : Int) < (n : Int) := by omega
              go_wp2_with fail
              go_loopw [3, 7] (fun v3 v7 wr3 => ∃ (d : Nat), d ≤ n ∧ v7 = .int .i16 d ∧ Hid (RoC w (Lm n a b c d) v3 wr3)) (fun _ v7 _ => n - (intOf v7).toNat)
              case atStart => exact ⟨0, Nat.zero_le _, rfl, hR2⟩
              case round =>
                obtain ⟨d, hd, rfl, hR3⟩ := hrel
                by_cases ld : d < n
                · have id : (d : Int) < (n : Int) := by omega
                  by_cases e1 : a = b
                  · have t1 : ((a : Int) != (b : Int)) = false := by simp [e1]
                    have HS : Hid (RoC w (Lm n a b c (d + 1)) _ _) := Lib.hid (by rw [Lm_no (.inl e1)]; exact hR3.out)
                    clear e1 hR3
                    go_wp2
                    exact ⟨⟨d + 1, by omega, by go_num, HS⟩, by simp [intOf]; omega⟩
                  have t1 : ((a : Int) != (b : Int)) = true := by simpa using (show ¬ ((a : Int) = (b : Int)) by omega)
                  by_cases e2 : a = c
                  · have t2 : ((a : Int) != (c : Int)) = false := by simp [e2]
                    have HS : Hid (RoC w (Lm n a b c (d + 1)) _ _) := Lib.hid (by rw [Lm_no (.inr (.inl e2))]; exact hR3.out)
                    clear e2 hR3
                    go_wp2
                    exact ⟨⟨d + 1, by omega, by go_num, HS⟩, by simp [intOf]; omega⟩
                  have t2 : ((a : Int) != (c : Int)) = true := by simpa using (show ¬ ((a : Int) = (c : Int)) by omega)
                  by_cases e3 : a = d
                  · have t3 : ((a : Int) != (d : Int)) = false := by simp [e3]
                    have HS : Hid (RoC w (Lm n a b c (d + 1)) _ _) := Lib.hid (by rw [Lm_no (.inr (.inr (.inl e3)))]; exact hR3.out)
                    clear e3 hR3
                    go_wp2
                    exact ⟨⟨d + 1, by omega, by go_num, HS⟩, by simp [intOf]; omega⟩
                  have t3 : ((a : Int) != (d : Int)) = true := by simpa using (show ¬ ((a : Int) = (d : Int)) by omega)
                  by_cases e4 : b = c
                  · have t4 : ((b : Int) != (c : Int)) = false := by simp [e4]
                    have HS : Hid (RoC w (Lm n a b c (d + 1)) _ _) := Lib.hid (by rw [Lm_no (.inr (.inr (.inr (.inl e4))))]; exact hR3.out)
                    clear e4 hR3
                    go_wp2
                    exact ⟨⟨d + 1, by omega, by go_num, HS⟩, by simp [intOf]; omega⟩
                  have t4 : ((b : Int) != (c : Int)) = true := by simpa using (show ¬ ((b : Int) = (c : Int)) by omega)
                  by_cases e5 : b = d
                  · have t5 : ((b : Int) != (d : Int)) = false := by simp [e5]
                    have HS : Hid (RoC w (Lm n a b c (d + 1)) _ _) := Lib.hid (by rw [Lm_no (.inr (.inr (.inr (.inr (.inl e5)))))]; exact hR3.out)
                    clear e5 hR3
                    go_wp2
                    exact ⟨⟨d + 1, by omega, by go_num, HS⟩, by simp [intOf]; omega⟩
                  have t5 : ((b : Int) != (d : Int)) = true := by simpa using (show ¬ ((b : Int) = (d : Int)) by omega)
                  by_cases e6 : c = d
                  · have t6 : ((c : Int) != (d : Int)) = false := by simp [e6]
                    have HS : Hid (RoC w (Lm n a b c (d + 1)) _ _) := Lib.hid (by rw [Lm_no (.inr (.inr (.inr (.inr (.inr e6)))))]; exact hR3.out)
                    clear e6 hR3
                    go_wp2
                    exact ⟨⟨d + 1, by omega, by go_num, HS⟩, by simp [intOf]; omega⟩
                  have t6 : ((c : Int) != (d : Int)) = true := by simpa using (show ¬ ((c : Int) = (d : Int)) by omega)
                  have HL := Lm_len (n := n) (a := a) (b := b) (c := c) (d := d) hn24 la lb lc hd
                  have HS := Lib.hid (Lm_yes (n := n) e1 e2 e3 e4 e5 e6)
                  clear e1 e2 e3 e4 e5 e6
                  generalize Lm n a b c d = ps at *
                  have O3 := Lib.hid hR3.out.1
                  have BB := Lib.hid hR3.out.2
                  have hws := BB.out.size
                  clear hR3
                  go_wp2_with (at_builtin; refine wpList_append_own _ rfl _ _ 89 rfl w.heap.size 49 i0 _ 4 8 Try.underlying89 hi0 hz0 hz1 hz2 rfl (by decide) _ ps.length _ rfl (O3.out.alloc _) ⟨_, 0, none⟩ 1 1 (chK ((a, b), (c, d))).toList rfl rfl (World.news_of_block (cs := #[_, _, _, _]) (heap_alloc_new _ _)) (by intro u hu; simp at hu; rcases hu with rfl | rfl | rfl | rfl <;> rfl) (by unfold maxLen; omega) (by omega) (by simp; omega) ?_; intro v9 w9 hown9 hgrow9 _)
                  have Hba := own_base O3.out
                  have B9 : Hid (Below w.heap.size w w9) := (b_alloc BB.out _).grown hgrow9 (by simp; omega) (fun k h => (Hba k h).1)
                  have H9 := Lib.hid hown9
                  clear hown9 hgrow9
                  go_wp2
                  refine ⟨⟨d + 1, by omega, by go_num, Lib.hid ⟨?_, B9.out⟩⟩, by simp [intOf]; omega⟩
                  rw [HS.out, cellsC_snoc, List.length_append]
                  exact H9.out
                · obtain rfl : d = n := by omega
                  have id : ¬ (d : Int) < (d : Int) := by omega
                  rw [← Lm_c d a b c] at hR3
                  go_wp2
                  exact ⟨⟨c + 1, by omega, by go_num, hR3⟩, by simp [intOf]; omega⟩
            · obtain rfl : c = n := by omega
              have ic : ¬ (c : Int) < (c : Int) := by omega
              rw [← Lm_b c a b] at hR2
              go_wp2
              exact ⟨⟨b + 1, by omega, by go_num, hR2⟩, by simp [intOf]; omega⟩
        · obtain rfl : b = n := by omega
          have ib : ¬ (b : Int) < (b : Int) := by omega
          rw [← Lm_a b a] at hR1
          go_wp2
          exact ⟨⟨a + 1, by omega, by go_num, hR1⟩, by simp [intOf]; omega⟩
    · obtain rfl : a = n := by omega
      have ia : ¬ (a : Int) < (a : Int) := by omega
      rw [Lm_all] at hR0
      go_wp2
      go_ret
      exact ⟨_, rfl, hR0.out⟩
end Go.Proofs.Ytaodpopghacmaaa
