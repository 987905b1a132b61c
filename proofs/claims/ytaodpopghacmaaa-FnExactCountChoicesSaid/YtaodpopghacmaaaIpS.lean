/-
  Slices of Int64A2: how they lie, the laws' copy of them, their comparison, their marks, and what came in.
-/
import Derived.Test.YtaodpopghacmaaaBase
import Derived.Deep.QuietTactic
import Derived.BigQuiet
import Derived.StillTailTactics
namespace Go.Proofs.Ytaodpopghacmaaa
open Go.RowKit Go.ChangeShapes Go.WideShapes Go.Deep Go.Joins
set_option linter.unusedVariables false
set_option linter.unusedSimpArgs false
structure Ip where
  p : Int
  q : Int
def Ip.cells (p : Ip) : List Value := [.int .i64 p.p, .int .i64 p.q]
def Ip.wf (p : Ip) : Prop := ((Lit.int .i64 p.p).wf = true) ∧ ((Lit.int .i64 p.q).wf = true)
/-- Up to which NaN. -/
def Ip.cn (p : Ip) : Ip := ⟨p.p, p.q⟩
instance : Inhabited Ip := ⟨⟨0, 0⟩⟩
/-- The slice of address A holds the ps, below block B. -/
def Ip.L (w : World) (B : Nat) (A : Option Addr) (ps : List Ip) : Prop :=
  0 < ps.length → ∃ b off, A = some ⟨b, off, none⟩ ∧ b < B ∧ ∀ i p, ps[i]? = some p → w.rangeAt b (off + i * 2) p.cells
theorem Ip.L.below {w w' : World} {B : Nat} {A : Option Addr} {ps : List Ip} (h : Ip.L w B A ps) {B' : Nat} (hb : Below B' w w') (hB : B ≤ B') : Ip.L w' B A ps := fun h0 => by
  obtain ⟨b, off, e, hlt, hc⟩ := h h0
  exact ⟨b, off, e, hlt, fun i p hp => rangeAt_of_block (hc i p hp) (hb.block b (Nat.lt_of_lt_of_le hlt hB))⟩
theorem Ip.L.more {w : World} {B B' : Nat} {A : Option Addr} {ps : List Ip} (h : Ip.L w B A ps) (hB : B ≤ B') : Ip.L w B' A ps := fun h0 => by
  obtain ⟨b, off, e, hlt, hc⟩ := h h0
  exact ⟨b, off, e, Nat.lt_of_lt_of_le hlt hB, hc⟩
theorem Ip.L.keep {w w' : World} {A : Option Addr} {ps : List Ip} (h : Ip.L w w.heap.size A ps) (hb : Below w.heap.size w w') : Ip.L w' w'.heap.size A ps := (h.below hb (Nat.le_refl _)).more hb.size
theorem Ip.L.mb {w w' : World} {A A' : Option Addr} {ps : List Ip} (h : Ip.L w w.heap.size A ps) (hm : MB A' w w') (hd : ∀ a a', A = some a → A' = some a' → a'.block ≠ a.block) : Ip.L w' w'.heap.size A ps := fun h0 => by
  obtain ⟨b, off, e, hlt, hc⟩ := h h0
  exact ⟨b, off, e, by rw [hm.1]; exact hlt, fun i p hp => rangeAt_of_block (hc i p hp) (hm.2.1 b (fun a' ha' => hd ⟨b, off, none⟩ a' e ha'))⟩
theorem Ip.at {w : World} {b o : Nat} {p : Ip} (h : w.rangeAt b o p.cells) :
    w.cell? ⟨b, o, none⟩ = some (.int .i64 p.p) ∧ w.cell? ⟨b, o + 1, none⟩ = some (.int .i64 p.q) :=
  ⟨h 0 _ rfl, h 1 _ rfl⟩
def Ip.In (w : World) (A : Option Addr) (n c : Nat) (ps : List Ip) : Prop := ps.length = n ∧ n ≤ c ∧ c ≤ maxLen ∧ Ip.L w w.heap.size A ps ∧ ∀ p ∈ ps, p.wf
theorem Ip.info : (Try.prog.info? 72).map (fun i => (i.zero, i.size, i.bytes)) = some (some (.agg #[.int .i64 0, .int .i64 0]), 2, 16) := by kernel_rfl
theorem Ip.cn_iff {p q : Ip} (h : p.cn = q.cn) : p.p = q.p ∧ p.q = q.q := by
  have h' := h
  unfold Ip.cn at h'
  injection h' with e0 e1
  exact ⟨e0, e1⟩
set_option maxRecDepth 100000 in
set_option maxHeartbeats 2000000 in
theorem Ip.eq1_any (p q : Ip) (h : p.cn = q.cn) (w : World) : Calls Try.prog 57 #[.agg #[.int .i64 p.p, .int .i64 p.q], .agg #[.int .i64 q.p, .int .i64 q.q]] w (RV (.bool true) w) := by
  obtain ⟨e0, e1⟩ := Ip.cn_iff h
  rw [← e0, ← e1]
  clear h e0 e1
  obtain ⟨x, y⟩ := p
  dsimp only
  obtain ⟨v, hv0, hv1⟩ : ∃ v : Nat → Int, v 0 = x ∧ v 1 = y := ⟨fun k => if k = 0 then x else y, rfl, rfl⟩
  have K0 : (((w.alloc (.cells #[.int .i64 x, .int .i64 y] 72)).alloc (.cells #[.int .i64 x, .int .i64 y] 72)).heap[w.heap.size]?) = some (.cells #[.int .i64 x, .int .i64 y] 72 (0, 0)) := (heap_alloc_old _ _ (by simp)).trans (heap_alloc_new _ _)
  have K1 : (((w.alloc (.cells #[.int .i64 x, .int .i64 y] 72)).alloc (.cells #[.int .i64 x, .int .i64 y] 72)).heap[w.heap.size + 1]?) = some (.cells #[.int .i64 x, .int .i64 y] 72 (0, 0)) := by
    have := heap_alloc_new (w.alloc (.cells #[.int .i64 x, .int .i64 y] 72)) (.cells #[.int .i64 x, .int .i64 y] 72)
    simpa using this
  have hc : Hid (∀ k, k < 2 → ((w.alloc (.cells #[.int .i64 x, .int .i64 y] 72)).alloc (.cells #[.int .i64 x, .int .i64 y] 72)).cell? ⟨w.heap.size, k, none⟩ = some (.int .i64 (v k)) ∧ ((w.alloc (.cells #[.int .i64 x, .int .i64 y] 72)).alloc (.cells #[.int .i64 x, .int .i64 y] 72)).cell? ⟨w.heap.size + 1, k, none⟩ = some (.int .i64 (v k))) := Lib.hid fun k hk => by
    rw [cell_of_row _ _ k _ _ _ K0, cell_of_row _ _ k _ _ _ K1]
    rcases (by omega : k = 0 ∨ k = 1) with rfl | rfl
    · rw [hv0]; exact ⟨rfl, rfl⟩
    · rw [hv1]; exact ⟨rfl, rfl⟩
  have HB : Hid (Below w.heap.size w ((w.alloc (.cells #[.int .i64 x, .int .i64 y] 72)).alloc (.cells #[.int .i64 x, .int .i64 y] 72))) := b_alloc (b_alloc (Below.refl _ _) _) _
  clear K0 K1 hv0 hv1
  go_enter Try.func57, Try.ntmps57
  go_wp2_with fail
  generalize (w.alloc (.cells #[.int .i64 x, .int .i64 y] 72)).alloc (.cells #[.int .i64 x, .int .i64 y] 72) = W at *
  go_loopw [5] (fun i wr => ∃ k : Nat, k ≤ 2 ∧ i = .int .i64 k ∧ W.heap = wr.heap ∧ Hid (Below w.heap.size w wr)) (fun i _ => 2 - (intOf i).toNat)
  case atStart => exact ⟨0, by omega, rfl, rfl, HB⟩
  case round =>
    obtain ⟨k, hk, rfl, hh, hb⟩ := hrel
    have Hh := Lib.hid hh; clear hh
    by_cases hlt : k < 2
    · obtain ⟨c0, d0⟩ := hc.out k hlt
      have c1 : wr.cell? ⟨w.heap.size, k, none⟩ = some (.int .i64 (v k)) := (World.cell?_of_block (w := W) (a := ⟨w.heap.size, k, none⟩) (by rw [Hh.out])).trans c0
      have d1 : wr.cell? ⟨w.heap.size + 1, k, none⟩ = some (.int .i64 (v k)) := (World.cell?_of_block (w := W) (a := ⟨w.heap.size + 1, k, none⟩) (by rw [Hh.out])).trans d0
      clear c0 d0
      have y0 : (0 : Int) ≤ (k : Int) := by omega
      have y1 : (k : Int) < (2 : Int) := by omega
      generalize v k = z at *
      go_wp2_with fail
      go_quiet (fail)
      clear c1 d1
      all_goals
        go_wp2
        go_roundw
        case rel => exact ⟨k + 1, by omega, by go_num, by first | exact Hh.out | (simp; exact Hh.out), by first | exact Lib.hid (b_drewN hb.out _) | exact Lib.hid hb.out.drew | exact Lib.hid hb.out.drew.drew | exact hb⟩
        case measure => simp [intOf]; omega
    · obtain rfl : k = 2 := by omega
      go_wp2
      go_ret
      exact ⟨rfl, hb.out⟩
set_option maxRecDepth 100000 in
set_option maxHeartbeats 2000000 in
theorem Ip.eq_any (A A' : Option Addr) (n c c' : Nat) (ps qs : List Ip) (w : World) (hl : ps.length = n) (he : ps.map Ip.cn = qs.map Ip.cn) (hn : n ≤ 1048576) (hT : Ip.L w w.heap.size A ps) (hT' : Ip.L w w.heap.size A' qs) :
    Calls Try.prog 14 #[.slice A n c, .slice A' n c'] w fun e w' => e = .returned (.bool true) ∧ Below w.heap.size w w' := by
  have hl' : qs.length = n := by have := congrArg List.length he; simp at this; omega
  have Hl := Lib.hid hl; clear hl
  have Hl' := Lib.hid hl'; clear hl'
  have HT := Lib.hid hT; clear hT
  have HT' := Lib.hid hT'; clear hT'
  have He := Lib.hid he; clear he
  go_enter Try.func14, Try.ntmps14
  go_wp2
  go_loopw [5] (fun i wr => ∃ k : Nat, k ≤ n ∧ i = .int .i64 k ∧ Below w.heap.size w wr) (fun i _ => n - (intOf i).toNat)
  case atStart => exact ⟨0, Nat.zero_le _, rfl, Below.refl _ _⟩
  case round =>
    obtain ⟨k, hk, rfl, hb⟩ := hrel
    have Hb := Lib.hid hb; clear hb
    by_cases hlt : k < n
    · have hkl : k < ps.length := by have := Hl.out; omega
      have hkl' : k < qs.length := by have := Hl'.out; omega
      obtain ⟨b, off, rfl, hbs, hc⟩ := HT.out (by omega)
      obtain ⟨b', off', rfl, hbs', hc'⟩ := HT'.out (by omega)
      obtain ⟨p, hp⟩ : ∃ p, ps[k]? = some p := ⟨_, List.getElem?_eq_getElem hkl⟩
      obtain ⟨q, hq⟩ : ∃ q, qs[k]? = some q := ⟨_, List.getElem?_eq_getElem hkl'⟩
      have hpq : p.cn = q.cn := by
        have h1 := congrArg (fun l => l[k]?) He.out
        simp only [List.getElem?_map, hp, hq, Option.map_some, Option.some.injEq] at h1
        exact h1
      have Hpq := Lib.hid hpq; clear hpq
      obtain ⟨c0, c1⟩ := Ip.at (rangeAt_of_block (hc k p hp) (Hb.out.block b hbs))
      obtain ⟨d0, d1⟩ := Ip.at (rangeAt_of_block (hc' k q hq) (Hb.out.block b' hbs'))
      clear hc hc' hkl hkl' hp hq
      go_wp2_with fail
      go_still_tail 8, (by kernel_rfl)
      change wpList _ _ _ _ _ wr.drew
      clear c0 c1 d0 d1
      go_wp2_with (go_at_call 57; refine (Ip.eq1_any p q Hpq.out _).mono ?_; rintro e w' ⟨rfl, hb2⟩)
      have Hb2 : Below w.heap.size w w' := (Hb.out.drew).trans (hb2.mono Hb.out.size)
      go_roundw
      case rel => exact ⟨k + 1, by omega, by go_num, Hb2⟩
      case measure => simp [intOf]; omega
    · have hkn : k = n := by omega
      subst hkn
      go_wp2
      go_ret
      exact ⟨rfl, Hb.out⟩
end Go.Proofs.Ytaodpopghacmaaa
