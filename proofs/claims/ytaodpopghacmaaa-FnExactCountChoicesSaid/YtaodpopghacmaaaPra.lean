/-
  All pairs of a box's wheels: the program's iterator.
-/
import Derived.RangeFuncNested
import Derived.RangeFuncBound
import Derived.RangeFuncCalls
import Derived.RangeFuncLeaves
import Derived.RangeFuncFrom
import Derived.Shelf.Abstract
import Derived.Shelf.RegionOpen
import Derived.OwnWalkIn
import Derived.TacticsInMore
import Derived.LoopNIn
import Derived.LoopIn
import Derived.Test.YtaodpopghacmaaaBase
namespace Go.Proofs.Ytaodpopghacmaaa
open Go.RowKit Go.ChangeShapes Go.WideShapes Go.Deep Go.Shelf
attribute [local go_sem] Oper.semAt_some
set_option linter.unusedVariables false
set_option linter.unusedSimpArgs false
/-- Below block m all is as it was, but for the blocks of x; no block has gone. -/
def Keep (m : Nat) (x : Nat → Prop) (W W' : World) : Prop := W.heap.size ≤ W'.heap.size ∧ ∀ k, k < m → ¬ x k → W'.heap[k]? = W.heap[k]?
theorem Keep.refl (m : Nat) (x : Nat → Prop) (W : World) : Keep m x W W := ⟨Nat.le_refl _, fun _ _ _ => rfl⟩
theorem Keep.trans {m : Nat} {x : Nat → Prop} {A B C : World} (h : Keep m x A B) (k : Keep m x B C) : Keep m x A C :=
  ⟨Nat.le_trans h.1 k.1, fun i hi hx => (k.2 i hi hx).trans (h.2 i hi hx)⟩
theorem Keep.below {m : Nat} {x : Nat → Prop} {A B : World} (h : Below m A B) : Keep m x A B := ⟨h.size, fun k hk _ => h.block k hk⟩
theorem keep_b {m : Nat} {x : Nat → Prop} {l : Nat} (W : World) (o o' : Obj) (hl : m ≤ l) (ho : W.heap[l]? = some o) : Keep m x W (W.putObj l o') := by
  refine ⟨by simp, fun k hk _ => World.putObj_heap_other (fun e => ?_)⟩
  omega
theorem grown_of_below {w w' : World} (h : Below w.heap.size w w') (row : Option Nat) : w.grownBy w' row :=
  ⟨h.os, h.tape, h.output, h.size, fun k hk _ => h.block k hk⟩
theorem abides_below {β : Type} {B : Nat} {J : β → World → Prop} (h : AbidesFrom B J) {s : β} {W W' : World} (hb : Below W.heap.size W W') (hs : J s W) : J s W' :=
  h s W W' none hs (grown_of_below hb none) (fun r e => by cases e)
/-- The pairs of wheel a with the first b wheels. -/
def rowU (a b : Nat) : List (Nat × Nat) := ((List.range b).filter fun j => j != a).map fun j => (a, j)
/-- The pairs that have come when wheel a has met the first b wheels. -/
def prU (n a b : Nat) : List (Nat × Nat) := ((List.range a).flatMap fun i => rowU i n) ++ rowU a b
theorem rowU_zero (a : Nat) : rowU a 0 = [] := rfl
theorem rowU_eq (a : Nat) : rowU a (a + 1) = rowU a a := by
  unfold rowU
  rw [List.range_succ, List.filter_append]
  simp
theorem rowU_ne {a b : Nat} (h : ¬ a = b) : rowU a (b + 1) = rowU a b ++ [(a, b)] := by
  unfold rowU
  rw [List.range_succ, List.filter_append, List.map_append]
  have : (b != a) = true := by simpa using fun e => h e.symm
  simp [this]
theorem prU_next (n a : Nat) : prU n (a + 1) 0 = prU n a n := by
  unfold prU
  rw [List.range_succ, List.flatMap_append, rowU_zero, List.append_nil]
  simp
theorem prU_eq (n a : Nat) : prU n a (a + 1) = prU n a a := by unfold prU; rw [rowU_eq]
theorem prU_ne {n a b : Nat} (h : ¬ a = b) : prU n a (b + 1) = prU n a b ++ [(a, b)] := by unfold prU; rw [rowU_ne h, List.append_assoc]
theorem rowU_pre (a : Nat) : ∀ k b, rowU a b <+: rowU a (b + k)
  | 0, b => List.prefix_refl _
  | k + 1, b => by
    refine List.IsPrefix.trans (rowU_pre a k b) ?_
    show rowU a (b + k) <+: rowU a (b + k + 1)
    by_cases h : a = b + k
    · rw [← h, rowU_eq]; exact List.prefix_refl _
    · rw [rowU_ne h]; exact List.prefix_append _ _
theorem prU_row {n a b : Nat} (h : b ≤ n) : prU n a b <+: prU n a n := by
  obtain ⟨k, rfl⟩ : ∃ k, n = b + k := ⟨n - b, by omega⟩
  unfold prU
  rw [List.prefix_append_right_inj]
  exact rowU_pre a k b
theorem prU_up (n a : Nat) : ∀ k, prU n a 0 <+: prU n (a + k) 0
  | 0 => List.prefix_refl _
  | k + 1 => by
    refine List.IsPrefix.trans (prU_up n a k) ?_
    show prU n (a + k) 0 <+: prU n (a + k + 1) 0
    rw [prU_next]
    exact prU_row (Nat.zero_le _)
theorem prU_pre {n a b : Nat} (ha : a < n) (hb : b ≤ n) : prU n a b <+: prU n n 0 := by
  refine List.IsPrefix.trans (prU_row hb) ?_
  rw [← prU_next]
  obtain ⟨k, hk⟩ : ∃ k, n = a + 1 + k := ⟨n - (a + 1), by omega⟩
  have := prU_up n (a + 1) k
  rwa [← hk] at this
/-- Two wheels of n. -/
abbrev TwP (n : Nat) := { x : Nat × Nat // x.1 < n ∧ x.2 < n ∧ ¬ x.1 = x.2 }
set_option maxRecDepth 100000 in
set_option maxHeartbeats 4000000 in
theorem pairs_stops (f : Nat) (n : Nat) (hn : n ≤ 24) (m : Nat) (x : Nat → Prop) (w : World) (hm : w.heap.size = m) (B1 : Nat)
    (q1 : w.heap[B1]? = some (.cells #[.int .i16 (n : Int)] 47 (0, 0))) (hx1 : ¬ x B1) (h1m : B1 < m) :
    SeqStopsK Fence.wide f Try.prog 87 #[.pointer (some ⟨B1, 0, none⟩)] (fun y : TwP n => #[.int .i16 (y.1.1 : Int), .int .i16 (y.1.2 : Int)]) (Keep m x)
      (fun xs => xs.map (·.1) = prU n n 0) (fun pre => pre.map (·.1) <+: prU n n 0) 576 w := by
  intro l J Jx W hW hJ hJx hY h0
  refine callsIn_of_wp Try.func87 rfl trivial ?_ rfl
  simp only [Try.ntmps87, List.size_toArray, List.length_cons, List.length_nil, Nat.reduceAdd, Nat.reduceSub, Array.replicate_succ, Array.replicate_zero, List.push_toArray, List.append_toArray, List.nil_append, List.cons_append]
  have c1 : W.cell? ⟨B1, 0, none⟩ = some (.int .i16 (n : Int)) := cell_of_row _ _ 0 _ _ _ ((hW.block B1 (by omega)).trans q1)
  have c2 : ∀ W', Keep m x W W' → W'.cell? ⟨B1, 0, none⟩ = some (.int .i16 (n : Int)) := fun W' hk => cell_of_row _ _ 0 _ _ _ ((hk.2 _ (by omega) hx1).trans ((hW.block _ (by omega)).trans q1))
  have C2 := Lib.hid c2; have HY := Lib.hid hY; have HJ := Lib.hid hJ; have H0 := Lib.hid h0
  clear c2 hY hJ q1 h0 hW
  gi_wp2
  clear c1
  gi_loopw [3, 4, 6, 9, 10] (fun v3 v4 v6 v9 v10 wr => ∃ (a : Nat) (pre : List (TwP n)), a ≤ n ∧ v6 = .int .i16 a ∧ Hid (pre.map (·.1) = prU n a 0) ∧ Hid (pre.length ≤ 24 * a) ∧ Hid (J pre wr) ∧ Hid (Keep m x W wr)) (fun _ _ v6 _ _ _ => n - (intOf v6).toNat)
  case atStart => exact ⟨0, [], Nat.zero_le _, rfl, rfl, Nat.le_refl _, H0, Keep.refl _ _ _⟩
  case round =>
    obtain ⟨a, pre, ha, rfl, hpre, hlen, hJp, hkp⟩ := hrel
    by_cases hlt : a < n
    · have c2 := C2.out wr hkp.out
      gi_wp2
      clear c2
      gi_loopw [4, 10] (fun v4 v10 wr2 => ∃ (b : Nat) (pre2 : List (TwP n)), b ≤ n ∧ v10 = .int .i16 b ∧ Hid (pre2.map (·.1) = prU n a b) ∧ Hid (pre2.length ≤ 24 * a + b) ∧ Hid (J pre2 wr2) ∧ Hid (Keep m x W wr2)) (fun _ v10 _ => n - (intOf v10).toNat)
      case atStart => exact ⟨0, pre, Nat.zero_le _, rfl, hpre, hlen, hJp, hkp⟩
      case round =>
        obtain ⟨b, pre2, hb, rfl, hpre2, hlen2, hJ2, hk2⟩ := hrel
        by_cases hbl : b < n
        · by_cases hab : a = b
          · subst hab
            have hpn : Hid (pre2.map (·.1) = prU n a (a + 1)) := Lib.hid (by rw [hpre2.out, prU_eq])
            have hln : Hid (pre2.length ≤ 24 * a + (a + 1)) := Lib.hid (by have := hlen2.out; omega)
            have hne : ((a : Int) != (a : Int)) = false := by simp
            clear hpre2 hlen2
            gi_wp2
            refine ⟨fun _ h => (by cases h), ?_⟩
            gi_wp2
            exact ⟨⟨a + 1, pre2, by omega, by go_num, hpn, hln, hJ2, hk2⟩, by simp [intOf]; omega⟩
          · have hne : ((a : Int) != (b : Int)) = true := by
              have : ¬ ((a : Int) = (b : Int)) := by omega
              simpa using this
            obtain ⟨fn, tmps, assign, body, hy, hR⟩ := HY.out pre2 ⟨(a, b), hlt, hbl, hab⟩ wr hJ2.out (by have := hlen2.out; omega)
            dsimp only at hy
            have hpn : Hid ((pre2 ++ [(⟨(a, b), hlt, hbl, hab⟩ : TwP n)]).map (·.1) = prU n a (b + 1)) := Lib.hid (by rw [prU_ne hab, List.map_append, hpre2.out]; rfl)
            have hln : Hid ((pre2 ++ [(⟨(a, b), hlt, hbl, hab⟩ : TwP n)]).length ≤ 24 * a + (b + 1)) := Lib.hid (by have := hlen2.out; simp; omega)
            generalize pre2 ++ [(⟨(a, b), hlt, hbl, hab⟩ : TwP n)] = pre3 at *
            gi_wp2
            refine ⟨fun h => absurd h (by decide), ?_⟩
            refine hR.mono ?_
            clear hR hy
            rintro e W3 (⟨rfl, hJ3, hk3⟩ | ⟨rfl, hJx3⟩)
            · have HJ3 := Lib.hid hJ3; have HK3 := Lib.hid (hk2.out.trans hk3)
              clear hJ3 hk3
              gi_wp2
              exact ⟨⟨b + 1, pre3, by omega, by go_num, hpn, hln, HJ3, HK3⟩, by simp [intOf]; omega⟩
            · gi_wp2
              refine bodyPost_ret (results_none rfl _ _ _) rfl ?_
              exact ⟨⟨_, rfl⟩, .inr ⟨pre3, by rw [hpn.out]; exact prU_pre hlt hbl, hJx3⟩⟩
        · obtain rfl : b = n := by omega
          have hpn : Hid (pre2.map (·.1) = prU b (a + 1) 0) := Lib.hid (by rw [prU_next]; exact hpre2.out)
          have hln : Hid (pre2.length ≤ 24 * (a + 1)) := Lib.hid (by have := hlen2.out; omega)
          gi_wp2
          exact ⟨⟨a + 1, pre2, by omega, by go_num, hpn, hln, hJ2, hk2⟩, by simp [intOf]; omega⟩
    · obtain rfl : a = n := by omega
      gi_wp2
      go_end0
      exact ⟨⟨_, rfl⟩, .inl ⟨pre, hpre.out, hJp.out⟩⟩
theorem pairs_in (f : Nat) (A : Option Addr) (k c : Nat) (hk : k ≤ 24) (w : World) :
    CallsIn Fence.wide f Try.prog 53 #[.slice A k c] w fun e w' =>
      e = .returned (.func (.func 87) #[] #[.pointer (some ⟨w.heap.size, 0, none⟩)]) ∧ w.alloc (.cells #[.int .i16 (k : Int)] 47) = w' := by
  refine callsIn_wide.2 ?_
  go_enter Try.func53, Try.ntmps53
  go_wp2
  go_ret
  exact ⟨rfl, rfl⟩
end Go.Proofs.Ytaodpopghacmaaa
