/-
  Slices of Pair: how they lie, the laws' copy of them, their comparison, their marks, and what came in.
-/
import Derived.Test.YtchilhapomfbeaaBase
namespace Go.Proofs.Ytchilhapomfbeaa
open Go.RowKit Go.ChangeShapes Go.WideShapes Go.Deep Go.Joins
set_option linter.unusedVariables false
set_option linter.unusedSimpArgs false
structure Px where
  a : Int
  b : Int
  l : Nat
def Px.cells (p : Px) : List Value := [.int .i16 p.a, .int .i16 p.b, .float .f32 p.l]
def Px.wf (p : Px) : Prop := (-32768 ≤ p.a ∧ p.a ≤ 32767) ∧ (-32768 ≤ p.b ∧ p.b ≤ 32767) ∧ p.l < 4294967296
/-- Up to which NaN. -/
def Px.cn (p : Px) : Px := ⟨p.a, p.b, Proofs.Ytchilhapomfbeaa.cn p.l⟩
instance : Inhabited Px := ⟨⟨0, 0, 0⟩⟩
/-- The slice of address A holds the ps, below block B. -/
def Px.L (w : World) (B : Nat) (A : Option Addr) (ps : List Px) : Prop :=
  0 < ps.length → ∃ b off, A = some ⟨b, off, none⟩ ∧ b < B ∧ ∀ i p, ps[i]? = some p → w.rangeAt b (off + i * 3) p.cells
theorem Px.L.below {w w' : World} {B : Nat} {A : Option Addr} {ps : List Px} (h : Px.L w B A ps) {B' : Nat} (hb : Below B' w w') (hB : B ≤ B') : Px.L w' B A ps := fun h0 => by
  obtain ⟨b, off, e, hlt, hc⟩ := h h0
  exact ⟨b, off, e, hlt, fun i p hp => rangeAt_of_block (hc i p hp) (hb.block b (Nat.lt_of_lt_of_le hlt hB))⟩
theorem Px.L.more {w : World} {B B' : Nat} {A : Option Addr} {ps : List Px} (h : Px.L w B A ps) (hB : B ≤ B') : Px.L w B' A ps := fun h0 => by
  obtain ⟨b, off, e, hlt, hc⟩ := h h0
  exact ⟨b, off, e, Nat.lt_of_lt_of_le hlt hB, hc⟩
theorem Px.L.keep {w w' : World} {A : Option Addr} {ps : List Px} (h : Px.L w w.heap.size A ps) (hb : Below w.heap.size w w') : Px.L w' w'.heap.size A ps := (h.below hb (Nat.le_refl _)).more hb.size
theorem Px.L.mb {w w' : World} {A A' : Option Addr} {ps : List Px} (h : Px.L w w.heap.size A ps) (hm : MB A' w w') (hd : ∀ a a', A = some a → A' = some a' → a'.block ≠ a.block) : Px.L w' w'.heap.size A ps := fun h0 => by
  obtain ⟨b, off, e, hlt, hc⟩ := h h0
  exact ⟨b, off, e, by rw [hm.1]; exact hlt, fun i p hp => rangeAt_of_block (hc i p hp) (hm.2.1 b (fun a' ha' => hd ⟨b, off, none⟩ a' e ha'))⟩
theorem Px.at {w : World} {b o : Nat} {p : Px} (h : w.rangeAt b o p.cells) :
    w.cell? ⟨b, o, none⟩ = some (.int .i16 p.a) ∧ w.cell? ⟨b, o + 1, none⟩ = some (.int .i16 p.b) ∧ w.cell? ⟨b, o + 2, none⟩ = some (.float .f32 p.l) :=
  ⟨h 0 _ rfl, h 1 _ rfl, h 2 _ rfl⟩
def Px.In (w : World) (A : Option Addr) (n c : Nat) (ps : List Px) : Prop := ps.length = n ∧ n ≤ c ∧ c ≤ maxLen ∧ Px.L w w.heap.size A ps ∧ ∀ p ∈ ps, p.wf
theorem Px.info : (Try.prog.info? 88).map (fun i => (i.zero, i.size, i.bytes)) = some (some (.agg #[.int .i16 0, .int .i16 0, .float .f32 0]), 3, 8) := by kernel_rfl
theorem Px.cn_iff {p q : Px} (h : p.cn = q.cn) : p.a = q.a ∧ p.b = q.b ∧ Proofs.Ytchilhapomfbeaa.cn p.l = Proofs.Ytchilhapomfbeaa.cn q.l := by
  have h' := h
  unfold Px.cn at h'
  injection h' with e0 e1 e2
  exact ⟨e0, e1, e2⟩
set_option maxHeartbeats 2000000 in
theorem Px.eq1_any (p q : Px) (h : p.cn = q.cn) (w : World) : Calls Try.prog 63 #[.agg #[.int .i16 p.a, .int .i16 p.b, .float .f32 p.l], .agg #[.int .i16 q.a, .int .i16 q.b, .float .f32 q.l]] w (RV (.bool true) w) := by
  obtain ⟨e0, e1, e2⟩ := Px.cn_iff h
  clear h
  obtain ⟨x2, y2, m2, n2, r2, s2, t2⟩ := conv2 e2
  have T2 := Lib.hid t2; clear t2 e2
  rw [e0, e1]
  clear e0 e1
  go_enter Try.func63, Try.ntmps63
  go_wp2_with fail
  refine (T2.out _ _ _).mono ?_
  rintro e z2 ⟨rfl, rfl⟩
  go_wp2
  all_goals
    go_ret
    refine ⟨rfl, ?_⟩
    (repeat (first | exact Below.refl _ _ | refine b_drewN ?_ _ | refine b_drew ?_ | refine b_alloc ?_ _ | refine b_then ?_ (by assumption)))
set_option maxRecDepth 100000 in
set_option maxHeartbeats 2000000 in
theorem Px.eq_any (A A' : Option Addr) (n c c' : Nat) (ps qs : List Px) (w : World) (hl : ps.length = n) (he : ps.map Px.cn = qs.map Px.cn) (hn : n ≤ 1048576) (hT : Px.L w w.heap.size A ps) (hT' : Px.L w w.heap.size A' qs) :
    Calls Try.prog 19 #[.slice A n c, .slice A' n c'] w fun e w' => e = .returned (.bool true) ∧ Below w.heap.size w w' := by
  have hl' : qs.length = n := by have := congrArg List.length he; simp at this; omega
  have Hl := Lib.hid hl; clear hl
  have Hl' := Lib.hid hl'; clear hl'
  have HT := Lib.hid hT; clear hT
  have HT' := Lib.hid hT'; clear hT'
  have He := Lib.hid he; clear he
  go_enter Try.func19, Try.ntmps19
  go_wp2
  go_loopw [5] (fun i wr => ∃ k : Nat, k ≤ n ∧ i = .int .i64 k ∧ Below w.heap.size w wr) (fun i _ => n - (intOf i).toNat)
  case atStart => exact ⟨0, Nat.zero_le _, rfl, Below.refl _ _⟩
  case round =>
    obtain ⟨k, hk, rfl, hb⟩ := hrel
    have Hb := Lib.hid hb; clear hb
    by_cases hlt : k < n
    · have hkl : k < ps.length := by have := Hl.out; omega
      have hkl' : k < qs.length := by have := Hl'.out; omega
      obtain ⟨b, off, rfl, hbs, hc⟩ := HT.out (by omega)
      obtain ⟨b', off', rfl, hbs', hc'⟩ := HT'.out (by omega)
      obtain ⟨p, hp⟩ : ∃ p, ps[k]? = some p := ⟨_, List.getElem?_eq_getElem hkl⟩
      obtain ⟨q, hq⟩ : ∃ q, qs[k]? = some q := ⟨_, List.getElem?_eq_getElem hkl'⟩
      have hpq : p.cn = q.cn := by
        have h1 := congrArg (fun l => l[k]?) He.out
        simp only [List.getElem?_map, hp, hq, Option.map_some, Option.some.injEq] at h1
        exact h1
      have Hpq := Lib.hid hpq; clear hpq
      obtain ⟨c0, c1, c2⟩ := Px.at (rangeAt_of_block (hc k p hp) (Hb.out.block b hbs))
      obtain ⟨d0, d1, d2⟩ := Px.at (rangeAt_of_block (hc' k q hq) (Hb.out.block b' hbs'))
      clear hc hc' hkl hkl' hp hq
      go_wp2_with fail
      go_still_tail 8, (by kernel_rfl)
      change wpList _ _ _ _ _ wr.drew
      clear c0 c1 c2 d0 d1 d2
      go_wp2_with (go_at_call 63; refine (Px.eq1_any p q Hpq.out _).mono ?_; rintro e w' ⟨rfl, hb2⟩)
      have Hb2 : Below w.heap.size w w' := (Hb.out.drew).trans (hb2.mono Hb.out.size)
      go_roundw
      case rel => exact ⟨k + 1, by omega, by go_num, Hb2⟩
      case measure => simp [intOf]; omega
    · have hkn : k = n := by omega
      subst hkn
      go_wp2
      go_ret
      exact ⟨rfl, Hb.out⟩
set_option maxRecDepth 100000 in
set_option maxHeartbeats 1000000 in
theorem Px.mark_any (b : Nat) (n c : Nat) (k0 : Int) (w : World) (hn : n ≤ 1048576) (h0 : 0 ≤ k0) (h1 : k0 ≤ 10000000) (ht : w.there b 0 (n * 3)) :
    Calls Try.prog 22 #[.slice (some ⟨b, 0, none⟩) n c, .int .i64 k0] w fun e w' => e = .returned (.int .i64 (k0 + 3 * n)) ∧ MB (some ⟨b, 0, none⟩) w w' := by
  have Ht0 := Lib.hid ht; clear ht
  go_enter Try.func22, Try.ntmps22
  go_wp2
  go_loopw [1, 5] (fun q i wr => ∃ k : Nat, k ≤ n ∧ q = .int .i64 (k0 + 3 * k) ∧ i = .int .i64 k ∧ MB (some ⟨b, 0, none⟩) w wr ∧ wr.there b 0 (n * 3)) (fun _ i _ => n - (intOf i).toNat)
  case atStart => exact ⟨0, Nat.zero_le _, by simp, rfl, MB.refl _ _, Ht0.out⟩
  case round =>
    obtain ⟨k, hkn, rfl, rfl, hm, hth2⟩ := hrel
    have Hm := Lib.hid hm; clear hm
    have Ht := Lib.hid hth2; clear hth2
    by_cases hlt : k < n
    · obtain ⟨e0, z0⟩ := Ht.out (k * 3) (by omega)
      obtain ⟨e1, z1⟩ := Ht.out (k * 3 + 1) (by omega)
      obtain ⟨e2, z2⟩ := Ht.out (k * 3 + 2) (by omega)
      rw [Nat.zero_add] at e0 z0 e1 z1 e2 z2
      obtain ⟨v0, c0⟩ := Option.isSome_iff_exists.1 e0
      obtain ⟨v1, c1⟩ := Option.isSome_iff_exists.1 e1
      obtain ⟨v2, c2⟩ := Option.isSome_iff_exists.1 e2
      clear e0 e1 e2
      go_wp2
      clear c0 z0 c1 z1 c2 z2
      go_roundw
      case rel => exact ⟨k + 1, by omega, by go_num, by go_num, (((Hm.out.cell (k * 3) _).cell (k * 3 + 1) _).cell (k * 3 + 2) _), (there_cell (there_cell (there_cell Ht.out b (k * 3) _) b (k * 3 + 1) _) b (k * 3 + 2) _)⟩
      case measure => simp [intOf]; omega
    · have hkn' : k = n := by omega
      subst hkn'
      go_wp2
      go_ret
      exact ⟨rfl, Hm.out⟩
end Go.Proofs.Ytchilhapomfbeaa
