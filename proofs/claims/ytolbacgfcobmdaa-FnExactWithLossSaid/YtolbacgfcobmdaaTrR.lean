/-
  Trains as results: what a call that returns a train and a code leaves; the law's marks on trains.
-/
import Derived.Test.YtolbacgfcobmdaaLawsA
import Derived.Test.YtolbacgfcobmdaaEqual
import Derived.Deep.RegionLaw
import Derived.Deep.AppendLies
import Derived.Deep.DrawnRows
import Derived.Deep.QuietTactic
import Derived.BigQuiet
import Derived.ArgAppend
namespace Go.Proofs.Ytolbacgfcobmdaa
open Go.RowKit Go.ChangeShapes Go.WideShapes Go.Deep
set_option linter.unusedVariables false
set_option linter.unusedSimpArgs false
/-- Nothing has turned but the block that A names. -/
def MB (A : Option Addr) (w w' : World) : Prop := w'.heap.size = w.heap.size ∧ (∀ k, (∀ a, A = some a → a.block ≠ k) → w'.heap[k]? = w.heap[k]?) ∧ ∀ B, (∀ a, A = some a → B ≤ a.block) → Below B w w'
theorem MB.refl (A : Option Addr) (w : World) : MB A w w := ⟨rfl, fun _ _ => rfl, fun _ _ => Below.refl _ _⟩
theorem block_setCells (b k : Nat) (h : b ≠ k) (vs : List Value) : ∀ (w : World) (o : Nat), (w.setCells b o vs).heap[k]? = w.heap[k]? := by
  induction vs with
  | nil => intro w o; rfl
  | cons v vs ih => intro w o; rw [World.setCells, ih]; exact Below.heap_setCell _ _ _ _ (Ne.symm h)
theorem MB.set {b : Nat} {w w' : World} (h : MB (some ⟨b, 0, none⟩) w w') (o : Nat) (vs : List Value) : MB (some ⟨b, 0, none⟩) w (w'.setCells b o vs) :=
  ⟨(size_setCells b vs w' o).trans h.1, fun k hk => (block_setCells b k (hk _ rfl) vs w' o).trans (h.2.1 k hk), fun B hB => below_setCells (h.2.2 B hB) (hB _ rfl) vs o⟩
theorem flat_get : ∀ (ps : List Pr) (i j : Nat) (p : Pr) (v : Value), ps[i]? = some p → p.cells[j]? = some v → (ps.flatMap Pr.cells)[i * 3 + j]? = some v := by
  intro ps
  induction ps with
  | nil => intro i j p v h; simp at h
  | cons q rest ih =>
    intro i j p v h hv
    have hj : j < 3 := by
      have := (List.getElem?_eq_some_iff.1 hv).1
      simpa [Pr.cells] using this
    have hq : q.cells.length = 3 := rfl
    cases i with
    | zero =>
      simp at h
      subst h
      rw [List.flatMap_cons, Nat.zero_mul, Nat.zero_add, List.getElem?_append_left (by omega)]
      exact hv
    | succ i =>
      rw [List.flatMap_cons, List.getElem?_append_right (by omega), hq]
      have e : (i + 1) * 3 + j - 3 = i * 3 + j := by omega
      rw [e]
      exact ih i j p v (by simpa using h) hv
theorem flat_len : ∀ (ps : List Pr), (ps.flatMap Pr.cells).length = ps.length * 3 := by
  intro ps
  induction ps with
  | nil => rfl
  | cons q rest ih => rw [List.flatMap_cons, List.length_append, ih]; show 3 + _ = _; simp; omega
theorem flat_inv : ∀ (ps : List Pr) (j : Nat) (v : Value), (ps.flatMap Pr.cells)[j]? = some v → ∃ p, ps[j / 3]? = some p ∧ p.cells[j % 3]? = some v := by
  intro ps j v h
  have hl := (List.getElem?_eq_some_iff.1 h).1
  rw [flat_len] at hl
  have hi : j / 3 < ps.length := by omega
  obtain ⟨p, hp⟩ : ∃ p, ps[j / 3]? = some p := ⟨_, List.getElem?_eq_getElem hi⟩
  refine ⟨p, hp, ?_⟩
  have hm : j % 3 < p.cells.length := by show j % 3 < 3; omega
  obtain ⟨u, hu⟩ : ∃ u, p.cells[j % 3]? = some u := ⟨_, List.getElem?_eq_getElem hm⟩
  have := flat_get ps (j / 3) (j % 3) p u hp hu
  have e : j / 3 * 3 + j % 3 = j := by omega
  rw [e, h] at this
  cases this
  exact hu
theorem flat_one (ps : List Pr) : ∀ u ∈ ps.flatMap Pr.cells, u.oneCell' = true := by
  intro u hu
  rw [List.mem_flatMap] at hu
  obtain ⟨p, _, hu⟩ := hu
  simp [Pr.cells] at hu
  rcases hu with rfl | rfl | rfl <;> rfl
/-- The cells of a train, from its address on. -/
theorem Tr.news {w : World} {b off : Nat} {ps : List Pr} (hc : ∀ i p, ps[i]? = some p → w.rangeAt b (off + i * 3) p.cells) : ∀ j u, (ps.flatMap Pr.cells)[j]? = some u → w.cell? ((⟨b, off, none⟩ : Addr).add j) = some u := fun j u hu => by
  obtain ⟨p, hp, hv⟩ := flat_inv ps j u hu
  have := hc _ p hp _ u hv
  have e : off + j / 3 * 3 + j % 3 = off + j := by omega
  rw [e] at this
  rwa [Addr.add_mid]
/-- The call returns a train and a code; the train is the call's own and may be written. -/
def TLC (ps : List Pr) (k : Int) (w : World) (e : Ending) (w' : World) : Prop :=
  ∃ A n c, e = .returned (.tuple #[.slice A n c, .int .i64 k]) ∧ ps.length = n ∧ Tr w' w'.heap.size A ps ∧ (0 < n → ∃ b, A = some ⟨b, 0, none⟩ ∧ w'.there b 0 (n * 3)) ∧ (∀ a, A = some a → w.heap.size ≤ a.block ∧ a.block < w'.heap.size) ∧ Below w.heap.size w w'
theorem tlc_of_row {w w' : World} {v : Value} {n : Nat} {ps : List Pr} {k : Int} (h : w'.ownsRow w.heap.size 62 3 v n (ps.flatMap Pr.cells)) (hb : Below w.heap.size w w') : TLC ps k w (.returned (.tuple #[v, .int .i64 k])) w' := by
  obtain ⟨h1, h2⟩ := h
  rw [flat_len] at h1
  rcases h2 with ⟨rfl, h0⟩ | ⟨g, cap, cur, rfl, hg, hh, hnc, hcap, hcs, ht⟩
  · exact ⟨none, 0, 0, rfl, by omega, fun h => absurd h (by omega), fun h => absurd h (by omega), fun a h => (by cases h), hb⟩
  · have hlt : g < w'.heap.size := by
      rcases Nat.lt_or_ge g w'.heap.size with hlt | hge
      · exact hlt
      · rw [Array.getElem?_eq_none hge] at hh; cases hh
    refine ⟨some ⟨g, 0, none⟩, n, cap, rfl, by omega, fun _ => ⟨g, 0, rfl, hlt, fun i p hp j u hu => ?_⟩, fun _ => ⟨g, rfl, fun j hj => ?_⟩, fun a h => (by cases h; exact ⟨hg, hlt⟩), hb⟩
    · have hi : i < ps.length := (List.getElem?_eq_some_iff.1 hp).1
      have hj : j < 3 := by
        have := (List.getElem?_eq_some_iff.1 hu).1
        simpa [Pr.cells] using this
      rw [Nat.zero_add, cell_of_row _ _ (i * 3 + j) _ _ _ hh]
      have e1 := congrArg (fun l => l[i * 3 + j]?) ht
      simp only [List.getElem?_take] at e1
      rw [if_pos (by omega), flat_get ps i j p u hp hu] at e1
      simpa using e1
    · rw [Nat.zero_add]
      refine ⟨?_, ?_⟩
      · rw [cell_of_row _ _ j _ _ _ hh]
        simp
        have : n * 3 ≤ cap * 3 := Nat.mul_le_mul_right _ hnc
        omega
      · unfold World.frozen?
        rw [hh]
        simp
theorem Tr.mb {w w' : World} {A A' : Option Addr} {ps : List Pr} (h : Tr w w.heap.size A ps) (hm : MB A' w w') (hd : ∀ a a', A = some a → A' = some a' → a'.block ≠ a.block) : Tr w' w'.heap.size A ps := fun h0 => by
  obtain ⟨b, off, e, hlt, hc⟩ := h h0
  exact ⟨b, off, e, by rw [hm.1]; exact hlt, fun i p hp => rangeAt_of_block (hc i p hp) (hm.2.1 b (fun a' ha' => hd ⟨b, off, none⟩ a' e ha'))⟩
/-- What the mark leaves on a train of n pairs. -/
def MkT (w : World) (A : Option Addr) (n : Nat) : Prop := 0 < n → ∃ b, A = some ⟨b, 0, none⟩ ∧ b < w.heap.size ∧ ∀ i : Nat, i < n → w.rangeAt b (i * 3) [.int .i16 (1 + 3 * i), .int .i16 (1 + 3 * i + 1), .float .f32 (floatOfInt .f32 (1 + 3 * i + 1 + 1))]
theorem MkT.keep {w w' : World} {A : Option Addr} {n : Nat} (h : MkT w A n) (hb : Below w.heap.size w w') : MkT w' A n := fun h0 => by
  obtain ⟨b, e, hlt, hc⟩ := h h0
  exact ⟨b, e, Nat.lt_of_lt_of_le hlt hb.size, fun i hi => rangeAt_of_block (hc i hi) (hb.block b hlt)⟩
theorem ord_fint (z : Int) : FloatKind.f32.format.order (floatOfInt .f32 z) (floatOfInt .f32 z) = some .eq := order_self (notNan_nearest Ieee.single _ _ _)
theorem i16_small (k : Int) (h0 : 0 ≤ k) (h1 : k ≤ 1000) : IntKind.i16.wrap k = k := by
  unfold IntKind.wrap
  simp [IntKind.signed, IntKind.bits]
  omega
set_option maxRecDepth 100000 in
theorem markTrain_any (b : Nat) (n c : Nat) (w : World) (hn : n ≤ 1048576) (ht : w.there b 0 (n * 3)) :
    Calls Try.prog 17 #[.slice (some ⟨b, 0, none⟩) n c, .int .i64 1] w fun e w' => e = .returned (.int .i64 (1 + 3 * n)) ∧ MB (some ⟨b, 0, none⟩) w w' := by
  have Ht0 := Lib.hid ht; clear ht
  go_enter Try.func17, Try.ntmps17
  go_wp2
  go_loopw [1, 5] (fun q i wr => ∃ k : Nat, k ≤ n ∧ q = .int .i64 (1 + 3 * k) ∧ i = .int .i64 k ∧ MB (some ⟨b, 0, none⟩) w wr ∧ wr.there b 0 (n * 3)) (fun _ i _ => n - (intOf i).toNat)
  case atStart => exact ⟨0, Nat.zero_le _, by simp, rfl, MB.refl _ _, Ht0.out⟩
  case round =>
    obtain ⟨k, hkn, rfl, rfl, hm, hth2⟩ := hrel
    have Hm := Lib.hid hm; clear hm
    have Ht := Lib.hid hth2; clear hth2
    by_cases hlt : k < n
    · obtain ⟨e0, z0⟩ := Ht.out (k * 3) (by omega)
      obtain ⟨e1, z1⟩ := Ht.out (k * 3 + 1) (by omega)
      obtain ⟨e2, z2⟩ := Ht.out (k * 3 + 2) (by omega)
      rw [Nat.zero_add] at e0 z0 e1 z1 e2 z2
      obtain ⟨v0, c0⟩ := Option.isSome_iff_exists.1 e0
      obtain ⟨v1, c1⟩ := Option.isSome_iff_exists.1 e1
      obtain ⟨v2, c2⟩ := Option.isSome_iff_exists.1 e2
      clear e0 e1 e2
      go_wp2
      clear c0 c1 c2 z0 z1 z2
      go_roundw
      case rel => exact ⟨k + 1, by omega, by go_num, by go_num, ((Hm.out.set (k * 3) [_]).set (k * 3 + 1) [_]).set (k * 3 + 2) [_], World.there_setCells (World.there_setCells (World.there_setCells Ht.out b (k * 3) [_]) b (k * 3 + 1) [_]) b (k * 3 + 2) [_]⟩
      case measure => simp [intOf]; omega
    · have hkn' : k = n := by omega
      subst hkn'
      go_wp2
      go_ret
      exact ⟨rfl, Hm.out⟩
theorem setCells3 (w : World) (b o : Nat) (x y z : Value) : ((w.setCells b o [x]).setCells b (o + 1) [y]).setCells b (o + 2) [z] = w.setCells b o [x, y, z] := rfl
set_option maxRecDepth 100000 in
theorem markTrR_any (A : Option Addr) (n c : Nat) (w : World) (hn : n ≤ 8) (hth : 0 < n → ∃ b, A = some ⟨b, 0, none⟩ ∧ b < w.heap.size ∧ w.there b 0 (n * 3)) :
    Calls Try.prog 17 #[.slice A n c, .int .i64 1] w fun e w' => e = .returned (.int .i64 (1 + 3 * n)) ∧ MB A w w' ∧ MkT w' A n := by
  have Hth := Lib.hid hth; clear hth
  go_enter Try.func17, Try.ntmps17
  go_wp2
  go_loopw [1, 5] (fun q i wr => ∃ k : Nat, k ≤ n ∧ q = .int .i64 (1 + 3 * k) ∧ i = .int .i64 k ∧ MB A w wr ∧ (0 < n → ∃ b, A = some ⟨b, 0, none⟩ ∧ wr.there b 0 (n * 3)) ∧ MkT wr A k) (fun _ i _ => n - (intOf i).toNat)
  case atStart =>
    refine ⟨0, Nat.zero_le _, by simp, rfl, MB.refl _ _, fun h0 => ?_, fun h => absurd h (by omega)⟩
    obtain ⟨b, e, _, h⟩ := Hth.out h0
    exact ⟨b, e, h⟩
  case round =>
    obtain ⟨k, hkn, rfl, rfl, hm, hth2, hmk⟩ := hrel
    have Hm := Lib.hid hm; clear hm
    have Ht := Lib.hid hth2; clear hth2
    have Hk := Lib.hid hmk; clear hmk
    by_cases hlt : k < n
    · obtain ⟨b, rfl, ht⟩ := Ht.out (by omega)
      obtain ⟨b', e', hbl, _⟩ := Hth.out (by omega)
      cases e'
      obtain ⟨e0, z0⟩ := ht (k * 3) (by omega)
      obtain ⟨e1, z1⟩ := ht (k * 3 + 1) (by omega)
      obtain ⟨e2, z2⟩ := ht (k * 3 + 2) (by omega)
      rw [Nat.zero_add] at e0 z0 e1 z1 e2 z2
      obtain ⟨v0, c0⟩ := Option.isSome_iff_exists.1 e0
      obtain ⟨v1, c1⟩ := Option.isSome_iff_exists.1 e1
      obtain ⟨v2, c2⟩ := Option.isSome_iff_exists.1 e2
      clear e0 e1 e2
      have HT := Lib.hid ht; clear ht
      have w0 := i16_small (1 + 3 * (k : Int)) (by omega) (by omega)
      have w1 := i16_small (1 + 3 * (k : Int) + 1) (by omega) (by omega)
      go_wp2
      clear c0 c1 c2 z0 z1 z2
      go_roundw
      case rel => 
        refine ⟨k + 1, by omega, by go_num, by go_num, ((Hm.out.set (k * 3) [_]).set (k * 3 + 1) [_]).set (k * 3 + 2) [_], fun _ => ⟨b, rfl, World.there_setCells (World.there_setCells (World.there_setCells HT.out b (k * 3) [_]) b (k * 3 + 1) [_]) b (k * 3 + 2) [_]⟩, fun _ => ⟨b, rfl, ?_, fun i hi => ?_⟩⟩
        · have h1 := Hm.out.1
          simpa [World.setCell, World.setCells, h1] using hbl
        · rcases (by omega : i < k ∨ i = k) with h | rfl
          · obtain ⟨b2, e2, _, h2⟩ := Hk.out (by omega)
            cases e2
            exact World.rangeAt_setCells_apart (h2 i h) b (k * 3) [_, _, _] (Or.inr (Or.inl (by simp; omega)))
          · exact World.rangeAt_setCells_same _ b (i * 3) [_, _, _] (there3 HT.out hlt)
      case measure => simp [intOf]; omega
    · have hkn' : k = n := by omega
      subst hkn'
      go_wp2
      go_ret
      exact ⟨rfl, Hm.out, Hk.out⟩
set_option maxRecDepth 100000 in
theorem heldTrR_any (A : Option Addr) (n c : Nat) (w : World) (hn : n ≤ 8) (hmk : MkT w A n) :
    Calls Try.prog 18 #[.slice A n c, .int .i64 1] w fun e w' => e = .returned (.int .i64 (1 + 3 * n)) ∧ Below w.heap.size w w' := by
  have Hk := Lib.hid hmk; clear hmk
  go_enter Try.func18, Try.ntmps18
  go_wp2
  go_loopw [1, 5] (fun q i wr => ∃ k : Nat, k ≤ n ∧ q = .int .i64 (1 + 3 * k) ∧ i = .int .i64 k ∧ Below w.heap.size w wr) (fun _ i _ => n - (intOf i).toNat)
  case atStart => exact ⟨0, Nat.zero_le _, by simp, rfl, Below.refl _ _⟩
  case round =>
    obtain ⟨k, hkn, rfl, rfl, hb⟩ := hrel
    have Hb := Lib.hid hb; clear hb
    by_cases hlt : k < n
    · obtain ⟨b, rfl, hbl, hcs⟩ := Hk.out (by omega)
      have hr := rangeAt_of_block (hcs k hlt) (Hb.out.block b hbl)
      have c0 : wr.cell? ⟨b, k * 3, none⟩ = some (.int .i16 (1 + 3 * (k : Int))) := hr 0 _ rfl
      have c1 : wr.cell? ⟨b, k * 3 + 1, none⟩ = some (.int .i16 (1 + 3 * (k : Int) + 1)) := hr 1 _ rfl
      have c2 : wr.cell? ⟨b, k * 3 + 2, none⟩ = some (.float .f32 (floatOfInt .f32 (1 + 3 * (k : Int) + 1 + 1))) := hr 2 _ rfl
      clear hcs hr
      have w0 := i16_small (1 + 3 * (k : Int)) (by omega) (by omega)
      have w1 := i16_small (1 + 3 * (k : Int) + 1) (by omega) (by omega)
      have ho : FloatKind.f32.format.order (floatOfInt .f32 (1 + 3 * (k : Int) + 1 + 1)) (floatOfInt .f32 (1 + 3 * (k : Int) + 1 + 1)) = some .eq := ord_fint _
      go_wp2
      go_roundw
      case rel => exact ⟨k + 1, by omega, by go_num, by go_num, Hb.out⟩
      case measure => simp [intOf]; omega
    · have hkn' : k = n := by omega
      subst hkn'
      go_wp2
      go_ret
      exact ⟨rfl, Hb.out⟩
end Go.Proofs.Ytolbacgfcobmdaa
