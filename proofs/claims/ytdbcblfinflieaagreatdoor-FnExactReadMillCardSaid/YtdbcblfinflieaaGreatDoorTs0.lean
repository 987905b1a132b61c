/-
  Texts: what the readers and writers of several words share.
-/
import Derived.Test.YtdbcblfinflieaaGreatDoorTdb
import Derived.Deep.RegionHeld3
import Derived.Deep.RegionLaw
namespace Go.Proofs.YtdbcblfinflieaaGreatDoor
open Go.RowKit Go.ChangeShapes Go.WideShapes Go.Deep
attribute [local go_sem ↓] Go.wp_at_zero Go.wp_at_succ
set_option linter.unusedVariables false
set_option linter.unusedSimpArgs false
set_option maxRecDepth 100000
theorem join_any (v : Value) (l : List (List UInt8)) (b : UInt8) (w : World) (h : StIn w v l) (hn : l.length ≤ 1000) (hlen : (Lib.join l [b]).length ≤ 140737488355328) : Calls Tryz.prog 30 #[v, .string ⟨#[b]⟩] w (RV (.string (bsOf (Lib.join l [b]))) w) := by
  obtain ⟨g, o, c, rfl, h1, h2, h3, h4⟩ := h
  have e1 : (l.map bsOf).map (·.data.toList) = l := by
    rw [List.map_map]
    conv => rhs; rw [← List.map_id l]
    rfl
  have L := Tryz.strings_Join g o c (l.map bsOf) ⟨#[b]⟩ w (fun j x hx => by
    rw [List.getElem?_map] at hx
    obtain ⟨y, hy, rfl⟩ := Option.map_eq_some_iff.1 hx
    exact h4 j y hy) h1 (by rw [List.length_map]; omega) (by rw [List.length_map]; exact h2) (by rw [e1]; exact hlen)
  rw [e1, List.length_map] at L
  exact L
theorem StIn.new (w : World) (l : List (List UInt8)) (hl : l.length ≤ maxLen) : StIn (w.alloc (.cells (l.map strV).toArray 9)) (.slice (some ⟨w.heap.size, 0, none⟩) l.length l.length) l := by
  refine ⟨w.heap.size, 0, l.length, rfl, by simp, Nat.le_refl _, hl, fun j x hx => ?_⟩
  rw [Nat.zero_add, cell_of_row _ _ j _ _ _ (heap_alloc_new w _)]
  simp [hx]
theorem join4 (a b c d : List UInt8) (x : UInt8) : bsOf (Lib.join [a, b, c, d] [x]) = bsOf a ++ ⟨#[x]⟩ ++ bsOf b ++ ⟨#[x]⟩ ++ bsOf c ++ ⟨#[x]⟩ ++ bsOf d := by
  have e : (⟨#[x]⟩ : ByteArray) = bsOf [x] := rfl
  rw [e, bsOf_append, bsOf_append, bsOf_append, bsOf_append, bsOf_append, bsOf_append, join_two, join_two, join_two, Lib.join_one]
  simp
theorem h8_size (x : Nat) : (bsOf (hex8 x)).size = 8 := by rw [bsOf_size, hex8_length]
theorem splitK_short (b : UInt8) : ∀ (k : Nat) (s x : List UInt8), x ∈ Lib.splitK [b] 0 k s → x.length ≤ s.length
  | 0, s, x, h => by simp [Lib.splitK] at h; subst h; exact Nat.le_refl _
  | k + 1, s, x, h => by
    by_cases hb : b ∈ s
    · obtain ⟨y, z, h1, rfl⟩ := first_of b s hb
      rw [splitK_hit b k y z h1] at h
      rcases List.mem_cons.1 h with rfl | h
      · simp
      · have := splitK_short b k z x h
        simp; omega
    · rw [splitK_miss b (k + 1) s hb] at h
      simp at h; subst h; exact Nat.le_refl _
theorem splitN_short {b : UInt8} {n : Nat} {s x : List UInt8} (h : x ∈ Lib.splitN s [b] n) : x.length ≤ s.length := splitK_short b _ s x h
theorem splitN_pos (b : UInt8) (n : Nat) (s : List UInt8) (hn : 1 ≤ n) : 0 < (Lib.splitN s [b] n).length ∧ (Lib.splitN s [b] n).length ≤ n := by
  rw [splitN_length b n s hn]
  have := List.length_pos_iff.2 (spl_ne b s)
  omega
theorem rdV_len (l : List (List UInt8)) : (rdV l).length = l.length := by simp [rdV]
/-- The numbers that the model has read so far. -/
structure NmI (n q : Nat) (T : TypeId) (l : List (List UInt8)) (k : Nat) (w1 wr : World) : Prop where
  hok : okAll (l.take k) = true
  hb : Below w1.heap.size w1 wr
  hc : ∃ cs, Blk wr q cs T ∧ cs.size = n ∧ ∀ j, j < k → cs[j]? = some (.float .f32 ((rdV l).getD j 0))
theorem NmI.step {n q : Nat} {T : TypeId} {l : List (List UInt8)} {k : Nat} {w1 wr : World} {x : List UInt8} {y : Nat} (h : NmI n q T l k w1 wr) (hk : k < n) (hq : w1.heap.size ≤ q) (hx : l[k]? = some x) (hr : rdN x = some y) : NmI n q T l (k + 1) w1 (wr.setCell ⟨q, k, none⟩ (.float .f32 y)) := by
  obtain ⟨h1, h2, cs, h3, h4, h5⟩ := h
  refine ⟨okAll_take_succ h1 hx (by rw [hr]; rfl), h2.setCell (p := ⟨q, k, none⟩) hq _, cs.setIfInBounds k (.float .f32 y), h3.set k _, by simp [h4], fun j hj => ?_⟩
  by_cases hjk : j = k
  · subst hjk
    have e : (rdV l).getD j 0 = y := by
      unfold rdV
      simp [List.getD, hx, hr, rnV]
    rw [Array.getElem?_setIfInBounds_self_of_lt (by omega), e]
  · rw [Array.getElem?_setIfInBounds_ne (by omega)]
    exact h5 j (by omega)
theorem rdN_some {x : List UInt8} (h : (rdN x).isSome = true) : rnV (rdN x) < 4294967296 ∧ hex8 (cn (rnV (rdN x))) = x := by
  obtain ⟨v, hv⟩ := Option.isSome_iff_exists.1 h
  obtain ⟨h1, h2, h3⟩ := rdN_lt hv
  rw [hv]
  show v < _ ∧ hex8 (cn v) = x
  rw [h2]
  exact ⟨h1, h3⟩
theorem bne_of {l m : List UInt8} {x : Bool} (h : (l == m) = x) : (l != m) = !x := by rw [← h]; rfl
end Go.Proofs.YtdbcblfinflieaaGreatDoor
