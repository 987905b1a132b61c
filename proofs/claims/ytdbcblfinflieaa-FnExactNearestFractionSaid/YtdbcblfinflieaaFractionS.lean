/-
  Slices of Fraction: how they lie, the laws' copy of them, their comparison, their marks, and what came in.
-/
import Derived.Test.YtdbcblfinflieaaBase
import Derived.Test.YtdbcblfinflieaaEx
namespace Go.Proofs.Ytdbcblfinflieaa
open Go.RowKit Go.ChangeShapes Go.WideShapes Go.Deep Go.Joins
set_option linter.unusedVariables false
set_option linter.unusedSimpArgs false
def Fr.cells (p : Fr) : List Value := [.int .i64 p.p, .int .i64 p.q]
def Fr.wf (p : Fr) : Prop := ((Lit.int .i64 p.p).wf = true) ∧ ((Lit.int .i64 p.q).wf = true)
/-- Up to which NaN. -/
def Fr.cn (p : Fr) : Fr := ⟨p.p, p.q⟩
instance : Inhabited Fr := ⟨⟨0, 0⟩⟩
/-- The slice of address A holds the ps, below block B. -/
def Fr.L (w : World) (B : Nat) (A : Option Addr) (ps : List Fr) : Prop :=
  0 < ps.length → ∃ b off, A = some ⟨b, off, none⟩ ∧ b < B ∧ ∀ i p, ps[i]? = some p → w.rangeAt b (off + i * 2) p.cells
theorem Fr.L.below {w w' : World} {B : Nat} {A : Option Addr} {ps : List Fr} (h : Fr.L w B A ps) {B' : Nat} (hb : Below B' w w') (hB : B ≤ B') : Fr.L w' B A ps := fun h0 => by
  obtain ⟨b, off, e, hlt, hc⟩ := h h0
  exact ⟨b, off, e, hlt, fun i p hp => rangeAt_of_block (hc i p hp) (hb.block b (Nat.lt_of_lt_of_le hlt hB))⟩
theorem Fr.L.more {w : World} {B B' : Nat} {A : Option Addr} {ps : List Fr} (h : Fr.L w B A ps) (hB : B ≤ B') : Fr.L w B' A ps := fun h0 => by
  obtain ⟨b, off, e, hlt, hc⟩ := h h0
  exact ⟨b, off, e, Nat.lt_of_lt_of_le hlt hB, hc⟩
theorem Fr.L.keep {w w' : World} {A : Option Addr} {ps : List Fr} (h : Fr.L w w.heap.size A ps) (hb : Below w.heap.size w w') : Fr.L w' w'.heap.size A ps := (h.below hb (Nat.le_refl _)).more hb.size
theorem Fr.L.mb {w w' : World} {A A' : Option Addr} {ps : List Fr} (h : Fr.L w w.heap.size A ps) (hm : MB A' w w') (hd : ∀ a a', A = some a → A' = some a' → a'.block ≠ a.block) : Fr.L w' w'.heap.size A ps := fun h0 => by
  obtain ⟨b, off, e, hlt, hc⟩ := h h0
  exact ⟨b, off, e, by rw [hm.1]; exact hlt, fun i p hp => rangeAt_of_block (hc i p hp) (hm.2.1 b (fun a' ha' => hd ⟨b, off, none⟩ a' e ha'))⟩
theorem Fr.at {w : World} {b o : Nat} {p : Fr} (h : w.rangeAt b o p.cells) :
    w.cell? ⟨b, o, none⟩ = some (.int .i64 p.p) ∧ w.cell? ⟨b, o + 1, none⟩ = some (.int .i64 p.q) :=
  ⟨h 0 _ rfl, h 1 _ rfl⟩
def Fr.In (w : World) (A : Option Addr) (n c : Nat) (ps : List Fr) : Prop := ps.length = n ∧ n ≤ c ∧ c ≤ maxLen ∧ Fr.L w w.heap.size A ps ∧ ∀ p ∈ ps, p.wf
theorem Fr.info : (Try.prog.info? 30).map (fun i => (i.zero, i.size, i.bytes)) = some (some (.agg #[.int .i64 0, .int .i64 0]), 2, 16) := by kernel_rfl
theorem Fr.cn_iff {p q : Fr} (h : p.cn = q.cn) : p.p = q.p ∧ p.q = q.q := by
  have h' := h
  unfold Fr.cn at h'
  injection h' with e0 e1
  exact ⟨e0, e1⟩
set_option maxHeartbeats 2000000 in
theorem Fr.eq1_any (p q : Fr) (h : p.cn = q.cn) (w : World) : Calls Try.prog 20 #[.agg #[.int .i64 p.p, .int .i64 p.q], .agg #[.int .i64 q.p, .int .i64 q.q]] w (RV (.bool true) w) := by
  obtain ⟨e0, e1⟩ := Fr.cn_iff h
  clear h
  rw [e0, e1]
  clear e0 e1
  go_enter Try.func20, Try.ntmps20
  go_wp2
  all_goals
    go_ret
    refine ⟨rfl, ?_⟩
    (repeat (first | exact Below.refl _ _ | refine b_drewN ?_ _ | refine b_drew ?_ | refine b_alloc ?_ _ | refine b_then ?_ (by assumption)))
set_option maxRecDepth 100000 in
set_option maxHeartbeats 2000000 in
theorem Fr.eq_any (A A' : Option Addr) (n c c' : Nat) (ps qs : List Fr) (w : World) (hl : ps.length = n) (he : ps.map Fr.cn = qs.map Fr.cn) (hn : n ≤ 1048576) (hT : Fr.L w w.heap.size A ps) (hT' : Fr.L w w.heap.size A' qs) :
    Calls Try.prog 15 #[.slice A n c, .slice A' n c'] w fun e w' => e = .returned (.bool true) ∧ Below w.heap.size w w' := by
  have hl' : qs.length = n := by have := congrArg List.length he; simp at this; omega
  have Hl := Lib.hid hl; clear hl
  have Hl' := Lib.hid hl'; clear hl'
  have HT := Lib.hid hT; clear hT
  have HT' := Lib.hid hT'; clear hT'
  have He := Lib.hid he; clear he
  go_enter Try.func15, Try.ntmps15
  go_wp2
  go_loopw [5] (fun i wr => ∃ k : Nat, k ≤ n ∧ i = .int .i64 k ∧ Below w.heap.size w wr) (fun i _ => n - (intOf i).toNat)
  case atStart => exact ⟨0, Nat.zero_le _, rfl, Below.refl _ _⟩
  case round =>
    obtain ⟨k, hk, rfl, hb⟩ := hrel
    have Hb := Lib.hid hb; clear hb
    by_cases hlt : k < n
    · have hkl : k < ps.length := by have := Hl.out; omega
      have hkl' : k < qs.length := by have := Hl'.out; omega
      obtain ⟨b, off, rfl, hbs, hc⟩ := HT.out (by omega)
      obtain ⟨b', off', rfl, hbs', hc'⟩ := HT'.out (by omega)
      obtain ⟨p, hp⟩ : ∃ p, ps[k]? = some p := ⟨_, List.getElem?_eq_getElem hkl⟩
      obtain ⟨q, hq⟩ : ∃ q, qs[k]? = some q := ⟨_, List.getElem?_eq_getElem hkl'⟩
      have hpq : p.cn = q.cn := by
        have h1 := congrArg (fun l => l[k]?) He.out
        simp only [List.getElem?_map, hp, hq, Option.map_some, Option.some.injEq] at h1
        exact h1
      have Hpq := Lib.hid hpq; clear hpq
      obtain ⟨c0, c1⟩ := Fr.at (rangeAt_of_block (hc k p hp) (Hb.out.block b hbs))
      obtain ⟨d0, d1⟩ := Fr.at (rangeAt_of_block (hc' k q hq) (Hb.out.block b' hbs'))
      clear hc hc' hkl hkl' hp hq
      go_wp2_with fail
      go_still_tail 8, (by kernel_rfl)
      change wpList _ _ _ _ _ wr.drew
      clear c0 c1 d0 d1
      go_wp2_with (go_at_call 20; refine (Fr.eq1_any p q Hpq.out _).mono ?_; rintro e w' ⟨rfl, hb2⟩)
      have Hb2 : Below w.heap.size w w' := (Hb.out.drew).trans (hb2.mono Hb.out.size)
      go_roundw
      case rel => exact ⟨k + 1, by omega, by go_num, Hb2⟩
      case measure => simp [intOf]; omega
    · have hkn : k = n := by omega
      subst hkn
      go_wp2
      go_ret
      exact ⟨rfl, Hb.out⟩
set_option maxRecDepth 100000 in
set_option maxHeartbeats 1000000 in
theorem Fr.mark_any (b : Nat) (n c : Nat) (k0 : Int) (w : World) (hn : n ≤ 1048576) (h0 : 0 ≤ k0) (h1 : k0 ≤ 10000000) (ht : w.there b 0 (n * 2)) :
    Calls Try.prog 16 #[.slice (some ⟨b, 0, none⟩) n c, .int .i64 k0] w fun e w' => e = .returned (.int .i64 (k0 + 2 * n)) ∧ MB (some ⟨b, 0, none⟩) w w' := by
  have Ht0 := Lib.hid ht; clear ht
  go_enter Try.func16, Try.ntmps16
  go_wp2
  go_loopw [1, 5] (fun q i wr => ∃ k : Nat, k ≤ n ∧ q = .int .i64 (k0 + 2 * k) ∧ i = .int .i64 k ∧ MB (some ⟨b, 0, none⟩) w wr ∧ wr.there b 0 (n * 2)) (fun _ i _ => n - (intOf i).toNat)
  case atStart => exact ⟨0, Nat.zero_le _, by simp, rfl, MB.refl _ _, Ht0.out⟩
  case round =>
    obtain ⟨k, hkn, rfl, rfl, hm, hth2⟩ := hrel
    have Hm := Lib.hid hm; clear hm
    have Ht := Lib.hid hth2; clear hth2
    by_cases hlt : k < n
    · obtain ⟨e0, z0⟩ := Ht.out (k * 2) (by omega)
      obtain ⟨e1, z1⟩ := Ht.out (k * 2 + 1) (by omega)
      rw [Nat.zero_add] at e0 z0 e1 z1
      obtain ⟨v0, c0⟩ := Option.isSome_iff_exists.1 e0
      obtain ⟨v1, c1⟩ := Option.isSome_iff_exists.1 e1
      clear e0 e1
      go_wp2
      clear c0 z0 c1 z1
      go_roundw
      case rel => exact ⟨k + 1, by omega, by go_num, by go_num, ((Hm.out.cell (k * 2) _).cell (k * 2 + 1) _), (there_cell (there_cell Ht.out b (k * 2) _) b (k * 2 + 1) _)⟩
      case measure => simp [intOf]; omega
    · have hkn' : k = n := by omega
      subst hkn'
      go_wp2
      go_ret
      exact ⟨rfl, Hm.out⟩
end Go.Proofs.Ytdbcblfinflieaa
