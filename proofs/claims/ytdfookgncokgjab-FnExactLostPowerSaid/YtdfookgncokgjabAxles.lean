/-
  The axles of a train: the program's iterator, and what its callers make of it.
-/
import Derived.RangeFuncNested
import Derived.RangeFuncBound
import Derived.RangeFuncCalls
import Derived.RangeFuncLeaves
import Derived.RangeFuncFrom
import Derived.Shelf.Abstract
import Derived.Shelf.RegionOpen
import Derived.OwnWalkIn
import Derived.TacticsInMore
import Derived.LoopNIn
import Derived.LoopIn
import Derived.Test.YtdfookgncokgjabPass
namespace Go.Proofs.Ytdfookgncokgjab
open Go.RowKit Go.ChangeShapes Go.WideShapes Go.Deep Go.Shelf
attribute [local go_sem] Oper.semAt_some
set_option linter.unusedVariables false
set_option linter.unusedSimpArgs false
/-- Below block m all is as it was, but for the blocks of x; no block has gone. -/
def Keep (m : Nat) (x : Nat → Prop) (W W' : World) : Prop := W.heap.size ≤ W'.heap.size ∧ ∀ k, k < m → ¬ x k → W'.heap[k]? = W.heap[k]?
theorem Keep.refl (m : Nat) (x : Nat → Prop) (W : World) : Keep m x W W := ⟨Nat.le_refl _, fun _ _ _ => rfl⟩
theorem Keep.trans {m : Nat} {x : Nat → Prop} {A B C : World} (h : Keep m x A B) (k : Keep m x B C) : Keep m x A C :=
  ⟨Nat.le_trans h.1 k.1, fun i hi hx => (k.2 i hi hx).trans (h.2 i hi hx)⟩
theorem Keep.below {m : Nat} {x : Nat → Prop} {A B : World} (h : Below m A B) : Keep m x A B := ⟨h.size, fun k hk _ => h.block k hk⟩
theorem keep_b {m : Nat} {x : Nat → Prop} {l : Nat} (W : World) (o o' : Obj) (hl : m ≤ l) (ho : W.heap[l]? = some o) : Keep m x W (W.putObj l o') := by
  refine ⟨by simp, fun k hk _ => World.putObj_heap_other (fun e => ?_)⟩
  omega
theorem grown_of_below {w w' : World} (h : Below w.heap.size w w') (row : Option Nat) : w.grownBy w' row :=
  ⟨h.os, h.tape, h.output, h.size, fun k hk _ => h.block k hk⟩
theorem abides_below {β : Type} {B : Nat} {J : β → World → Prop} (h : AbidesFrom B J) {s : β} {W W' : World} (hb : Below W.heap.size W W') (hs : J s W) : J s W' :=
  h s W W' none hs (grown_of_below hb none) (fun r e => by cases e)
/-- What the axles carry: canonical words. -/
def axC (g : Pr → Nat → Nat) (x : Nat) : List Pr → List Nat
  | [] => [x]
  | p :: ps => x :: axC g (g p x) ps
set_option maxRecDepth 100000 in
set_option maxHeartbeats 2000000 in
theorem axles_stops (n : Nat) (pf : Nat) (g : Pr → Nat → Nat)
    (hpf : ∀ (p : Pr) (y : Nat) (w : World), Calls Try.prog pf #[.agg #[.int .i16 p.a, .int .i16 p.b, .float .f32 p.l], .float .f32 y] w (FB (g p (cn y)) w))
    (hen : ∀ args w, (callFunc pf args).run Try.prog w = .ok (.enter pf args) w)
    (m : Nat) (x : Nat → Prop) (w : World) (hm : w.heap.size = m) (B1 : Nat) (x0 : Nat) (A : Option Addr) (k c : Nat) (ps : List Pr)
    (q1 : w.heap[B1]? = some (.cells #[.float .f32 x0] 31 (0, 0))) (q2 : w.heap[B1 - 1]? = some (.cells #[.slice A k c] 27 (0, 0))) (q3 : w.heap[B1 + 1]? = some (.cells #[.func (.func pf) #[] #[]] 67 (0, 0)))
    (hx1 : ¬ x B1) (hx2 : ¬ x (B1 - 1)) (hx3 : ¬ x (B1 + 1)) (h1m : B1 + 1 < m)
    (hl : ps.length = k) (hk8 : k ≤ 1048576) (hT : 0 < ps.length → ∃ b off, A = some ⟨b, off, none⟩ ∧ b < m ∧ ¬ x b ∧ ∀ i p, ps[i]? = some p → w.rangeAt b (off + i * 3) p.cells) :
    SeqStopsK Fence.wide n Try.prog 91 #[.pointer (some ⟨B1, 0, none⟩), .pointer (some ⟨B1 - 1, 0, none⟩), .pointer (some ⟨B1 + 1, 0, none⟩)] (fun y : Nat => #[.float .f32 y]) (Keep m x)
      (fun xs => xs.map cn = axC g (cn x0) ps) (fun _ => True) (k + 1) w := by
  intro l J Jx W hW hJ hJx hY h0
  refine callsIn_of_wp Try.func91 rfl trivial ?_ rfl
  simp only [Try.ntmps91, List.size_toArray, List.length_cons, List.length_nil, Nat.reduceAdd, Nat.reduceSub, Array.replicate_succ, Array.replicate_zero, List.push_toArray, List.append_toArray, List.nil_append, List.cons_append]
  have c1 : W.cell? ⟨B1, 0, none⟩ = some (.float .f32 x0) := cell_of_row _ _ 0 _ _ _ ((hW.block B1 (by omega)).trans q1)
  obtain ⟨fn, tmps, assign, body, hy, hR⟩ := hY [] x0 W h0 (by simp)
  have c2 : ∀ W', Keep m x W W' → W'.cell? ⟨B1 - 1, 0, none⟩ = some (.slice A k c) := fun W' hk => cell_of_row _ _ 0 _ _ _ ((hk.2 _ (by omega) hx2).trans ((hW.block _ (by omega)).trans q2))
  have c3 : ∀ W', Keep m x W W' → W'.cell? ⟨B1 + 1, 0, none⟩ = some (.func (.func pf) #[] #[]) := fun W' hk => cell_of_row _ _ 0 _ _ _ ((hk.2 _ (by omega) hx3).trans ((hW.block _ (by omega)).trans q3))
  have C2 := Lib.hid c2; have C3 := Lib.hid c3; have HT := Lib.hid hT; have HW := Lib.hid hW; have HY := Lib.hid hY; have HJ := Lib.hid hJ
  clear c2 c3 hT hY hJ q1 q2 q3
  have hWm : m ≤ W.heap.size := by rw [← hm]; exact hW.size
  have Hm := Lib.hid hm
  have Hl := Lib.hid hl
  clear hW hm hl
  gi_wp2
  refine ⟨fun h => absurd h (by decide), ?_⟩
  refine hR.mono ?_
  clear hR hy
  rintro e W1 (⟨rfl, hJ1, hk1⟩ | ⟨rfl, hJx1⟩)
  · have HJ1 := Lib.hid hJ1; have HK1 := Lib.hid hk1
    clear hJ1 hk1
    have c2 := C2.out W1 HK1.out
    gi_wp2
    clear c2
    gi_loopw [5, 15] (fun u i wr => ∃ (j : Nat) (y : Nat) (pre : List Nat), j ≤ k ∧ i = .int .i64 j ∧ u = .float .f32 y ∧ (∀ rest, axC g (cn y) (ps.drop j) = cn y :: rest → pre.map cn ++ rest = axC g (cn x0) ps) ∧ pre.length = j + 1 ∧ J pre wr ∧ Keep m x W wr) (fun _ i _ => k - (intOf i).toNat)
    case atStart => 
      refine ⟨0, x0, [x0], Nat.zero_le _, rfl, rfl, fun rest hr => ?_, rfl, HJ1.out, HK1.out⟩
      rw [List.drop_zero] at hr
      rw [hr]
      rfl
    case round =>
      obtain ⟨j, y, pre, hj, rfl, rfl, hax, hpl, hJp, hkp⟩ := hrel
      have Hax := Lib.hid hax; have HJp := Lib.hid hJp; have HKp := Lib.hid hkp
      clear hax hJp hkp
      by_cases hlt : j < k
      · have hjl : j < ps.length := by have := Hl.out; omega
        obtain ⟨b, off, rfl, hbm, hbx, hc⟩ := HT.out (by omega)
        obtain ⟨p, hp⟩ : ∃ p, ps[j]? = some p := ⟨_, List.getElem?_eq_getElem hjl⟩
        obtain ⟨d0, d1, d2⟩ := cells3 (rangeAt_of_block (rangeAt_of_block (hc j p hp) (HW.out.block b (by have := Hm.out; omega))) (HKp.out.2 b hbm hbx))
        have hszr : m ≤ wr.heap.size := Nat.le_trans hWm HKp.out.1
        have hal := fun o => HKp.out.trans (Keep.below (m := m) (x := x) (((Below.refl m wr).alloc hszr o)))
        have e3 := fun o => C3.out (wr.alloc o) (hal o)
        have Hal := Lib.hid hal; clear hal
        clear hc hjl
        have Hp := Lib.hid hp; clear hp
        gi_wp2
        refine ⟨trivial, fun h => absurd h (by decide), ?_⟩
        refine (callsIn_wide.2 (hpf p y _)).mono ?_
        rintro e W2 ⟨r, rfl, hr, b2⟩
        have bw : Below wr.heap.size wr W2 := ((Below.refl _ wr).alloc (Nat.le_refl _) _).trans (b2.mono (by simp))
        have hJ2 : J pre W2 := abides_below HJ.out bw HJp.out
        have HK2 : Hid (Keep m x W W2) := HKp.out.trans (Keep.below (bw.mono hszr))
        have Hr := Lib.hid hr
        clear hr b2 bw e3 d0 d1 d2
        obtain ⟨fn, tmps, assign, body, hy, hR⟩ := HY.out pre r W2 hJ2 (by omega)
        clear hJ2
        gi_wp2
        refine ⟨fun h => absurd h (by decide), ?_⟩
        refine hR.mono ?_
        clear hR hy
        rintro e W3 (⟨rfl, hJ3, hk3⟩ | ⟨rfl, hJx3⟩)
        · have HJ3 := Lib.hid hJ3; have HK3 := Lib.hid (HK2.out.trans hk3)
          clear hJ3 hk3
          gi_wp2
          have Hinv : Hid (∀ rest, axC g (cn r) (ps.drop (j + 1)) = cn r :: rest → (pre ++ [r]).map cn ++ rest = axC g (cn x0) ps) := fun rest hrest => by
            have e1 : ps.drop j = p :: ps.drop (j + 1) := by
              obtain ⟨h1, h2⟩ := List.getElem?_eq_some_iff.1 Hp.out
              rw [List.drop_eq_getElem_cons h1, h2]
            have e2 := Hax.out (cn r :: rest) (by rw [e1, axC, ← Hr.out, hrest])
            rw [List.map_append, List.append_assoc]
            exact e2
          have hlen : (pre ++ [r]).length = j + 1 + 1 := by simp [hpl]
          have Hlen := Lib.hid hlen; clear hlen
          go_roundw
          case rel => exact ⟨j + 1, r, pre ++ [r], by omega, by go_num, rfl, Hinv.out, Hlen.out, HJ3.out, HK3.out⟩
          case measure => simp [intOf]; omega
        · gi_wp2
          refine bodyPost_ret (results_none rfl _ _ _) rfl ?_
          exact ⟨⟨_, rfl⟩, .inr ⟨pre ++ [r], trivial, hJx3⟩⟩
      · have hjk : j = k := by omega
        subst hjk
        gi_wp2
        go_end0
        refine ⟨⟨_, rfl⟩, .inl ⟨pre, ?_, HJp.out⟩⟩
        have e1 : ps.drop j = [] := List.drop_eq_nil_of_le (by have := Hl.out; omega)
        have e2 := Hax.out [] (by rw [e1]; rfl)
        rw [List.append_nil] at e2
        exact e2
  · gi_wp2
    refine bodyPost_ret (results_none rfl _ _ _) rfl ?_
    exact ⟨⟨_, rfl⟩, .inr ⟨[] ++ [x0], trivial, hJx1⟩⟩
end Go.Proofs.Ytdfookgncokgjab
