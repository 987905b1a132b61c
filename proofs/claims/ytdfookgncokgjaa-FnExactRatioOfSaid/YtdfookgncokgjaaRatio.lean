/-
  The ratio of a train.
-/
import Derived.Test.YtdfookgncokgjaaLawsA
import Derived.Test.YtdfookgncokgjaaGcd
namespace Go.Proofs.Ytdfookgncokgjaa
open Go.RowKit Go.ChangeShapes Go.WideShapes Go.Deep
set_option linter.unusedVariables false
set_option linter.unusedSimpArgs false
def prodA (ps : List Pr) : Nat := (ps.map fun p => p.a.toNat).foldl (· * ·) 1
def prodB (ps : List Pr) : Nat := (ps.map fun p => p.b.toNat).foldl (· * ·) 1
theorem prodA_succ {ps : List Pr} {k : Nat} {p : Pr} (hp : ps[k]? = some p) : prodA (ps.take (k + 1)) = prodA (ps.take k) * p.a.toNat := by
  obtain ⟨hk, e⟩ := List.getElem?_eq_some_iff.1 hp
  unfold prodA
  rw [List.take_succ_eq_append_getElem hk, List.map_append, List.foldl_append, e]
  rfl
theorem prodB_succ {ps : List Pr} {k : Nat} {p : Pr} (hp : ps[k]? = some p) : prodB (ps.take (k + 1)) = prodB (ps.take k) * p.b.toNat := by
  obtain ⟨hk, e⟩ := List.getElem?_eq_some_iff.1 hp
  unfold prodB
  rw [List.take_succ_eq_append_getElem hk, List.map_append, List.foldl_append, e]
  rfl
theorem prod_bound {ps : List Pr} (h : okTr ps = true) : ∀ k, k ≤ ps.length → (1 ≤ prodA (ps.take k) ∧ prodA (ps.take k) ≤ 200 ^ k) ∧ (1 ≤ prodB (ps.take k) ∧ prodB (ps.take k) ≤ 200 ^ k) := by
  intro k
  induction k with
  | zero => intro _; simp [prodA, prodB]
  | succ k ih =>
    intro hk
    obtain ⟨p, hp⟩ : ∃ p, ps[k]? = some p := ⟨_, List.getElem?_eq_getElem (by omega)⟩
    obtain ⟨⟨a1, a2⟩, ⟨b1, b2⟩, _⟩ := teeth_bounds h (List.mem_of_getElem? hp)
    obtain ⟨⟨i1, i2⟩, ⟨j1, j2⟩⟩ := ih (by omega)
    rw [prodA_succ hp, prodB_succ hp, Nat.pow_succ]
    refine ⟨⟨?_, Nat.mul_le_mul i2 (by omega)⟩, ⟨?_, Nat.mul_le_mul j2 (by omega)⟩⟩
    · exact Nat.mul_pos i1 (by omega)
    · exact Nat.mul_pos j1 (by omega)
theorem pow_bound {k : Nat} (h : k ≤ 8) : 200 ^ k ≤ 2560000000000000000 := by
  have := Nat.pow_le_pow_right (show 0 < 200 by decide) h
  exact Nat.le_trans this (by decide)
def numR (ps : List Pr) : Nat := if okTr ps = true then prodA ps / Nat.gcd (prodA ps) (prodB ps) else 0
def denR (ps : List Pr) : Nat := if okTr ps = true then prodB ps / Nat.gcd (prodA ps) (prodB ps) else 0
set_option maxRecDepth 100000 in
theorem implRatioOf_any (A : Option Addr) (n c : Nat) (ps : List Pr) (w : World) (hl : ps.length = n) (hn : n ≤ 1048576) (hT : Tr w w.heap.size A ps) (hw : ∀ p ∈ ps, p.wf) :
    Calls Try.prog 63 #[.slice A n c] w fun e w' => e = .returned (.tuple #[.int .i64 (numR ps), .int .i64 (denR ps), .int .i64 (codeTr ps)]) ∧ Below w.heap.size w w' := by
  have Hl := Lib.hid hl; clear hl
  have HT := Lib.hid hT; clear hT
  have Hw := Lib.hid hw; clear hw
  unfold numR denR codeTr
  rcases Bool.eq_false_or_eq_true (okTr ps) with hs | hs
  · simp only [hs, if_true]
    have Hs := Lib.hid hs
    go_enter Try.func63, Try.ntmps63
    go_wp2_with (go_at_call 58; refine (validTrain_any _ _ _ ps _ Hl.out hn HT.out Hw.out).mono ?_; rintro e w1 ⟨rfl, b1⟩; have B1 := Lib.hid b1; clear b1)
    clear hs
    go_loopw [5, 6, 15] (fun u v i wr => ∃ k : Nat, k ≤ n ∧ i = .int .i64 k ∧ u = .int .i64 (prodA (ps.take k)) ∧ v = .int .i64 (prodB (ps.take k)) ∧ Below w.heap.size w wr) (fun _ _ i _ => n - (intOf i).toNat)
    case atStart => exact ⟨0, Nat.zero_le _, rfl, rfl, rfl, B1.out⟩
    case round =>
      obtain ⟨k, hk, rfl, rfl, rfl, hb⟩ := hrel
      have Hb := Lib.hid hb; clear hb
      by_cases hlt : k < n
      · have hkl : k < ps.length := by have := Hl.out; omega
        obtain ⟨b, off, rfl, hbs, hc⟩ := HT.out (by omega)
        obtain ⟨p, hp⟩ : ∃ p, ps[k]? = some p := ⟨_, List.getElem?_eq_getElem hkl⟩
        obtain ⟨⟨wa1, wa2⟩, ⟨wb1, wb2⟩, _⟩ := teeth_bounds Hs.out (List.mem_of_getElem? hp)
        obtain ⟨c0, c1, c2⟩ := cells3 (rangeAt_of_block (hc k p hp) (Hb.out.block b hbs))
        have EA := prodA_succ hp
        have EB := prodB_succ hp
        have ⟨⟨_, q2⟩, ⟨_, q4⟩⟩ := prod_bound Hs.out (k + 1) hkl
        have q5 := pow_bound (k := k + 1) (by have := (size_bounds Hs.out).2; omega)
        have ea : (prodA (ps.take k) : Int) * p.a = (prodA (ps.take (k + 1)) : Int) := by
          rw [EA, Int.natCast_mul, Int.toNat_of_nonneg (by omega)]
        have eb : (prodB (ps.take k) : Int) * p.b = (prodB (ps.take (k + 1)) : Int) := by
          rw [EB, Int.natCast_mul, Int.toNat_of_nonneg (by omega)]
        have wA : IntKind.i64.wrap ((prodA (ps.take k) : Int) * p.a) = (prodA (ps.take (k + 1)) : Int) := by rw [ea]; exact IntWalk.i64_in _ (by omega)
        have wB : IntKind.i64.wrap ((prodB (ps.take k) : Int) * p.b) = (prodB (ps.take (k + 1)) : Int) := by rw [eb]; exact IntWalk.i64_in _ (by omega)
        clear EA EB ea eb q2 q4 q5 hc hkl
        generalize prodA (ps.take k) = QA at *
        generalize prodB (ps.take k) = QB at *
        generalize hPA : prodA (ps.take (k + 1)) = PA at *
        generalize hPB : prodB (ps.take (k + 1)) = PB at *
        have HPA := Lib.hid hPA; clear hPA
        have HPB := Lib.hid hPB; clear hPB
        have Hp := Lib.hid hp; clear hp
        go_wp2
        have Hb2 := Hb.out.alloc Hb.out.size (.cells #[.int .i16 p.a, .int .i16 p.b, .float .f32 p.l] 44)
        go_roundw
        case rel => exact ⟨k + 1, by omega, by go_num, by rw [HPA.out], by rw [HPB.out], Hb2⟩
        case measure => simp [intOf]; omega
      · have hkn : k = n := by omega
        subst hkn
        have e1 : ps.take k = ps := List.take_of_length_le (by have := Hl.out; omega)
        have ⟨⟨q1, q2⟩, ⟨q3, q4⟩⟩ := prod_bound Hs.out k (by have := Hl.out; omega)
        have q5 := pow_bound (k := k) (by have := (size_bounds Hs.out).2; have := Hl.out; omega)
        rw [e1] at q1 q2 q3 q4
        rw [e1]
        have hx1 : prodA ps ≤ 9223372036854775807 := by omega
        have hx2 : prodB ps ≤ 9223372036854775807 := by omega
        have hg : 1 ≤ Nat.gcd (prodA ps) (prodB ps) := Nat.gcd_pos_of_pos_left _ q1
        clear q2 q4 q5 e1 q1 q3
        go_wp2_with (go_at_call 91; refine (implGcd_any _ _ _ hx1 hx2).mono ?_; rintro e w2 ⟨rfl, b2⟩; have B2 := Lib.hid b2; clear b2)
        generalize hPA : prodA ps = PA at *
        generalize hPB : prodB ps = PB at *
        generalize hG : Nat.gcd PA PB = g at *
        have HPA := Lib.hid hPA; clear hPA
        have HPB := Lib.hid hPB; clear hPB
        have HG := Lib.hid hG; clear hG
        have hg1 : (1 : Int) ≤ (g : Int) := by omega
        have hg2 : ((g : Int) == 0) = false := by simp; omega
        have d1 : 0 ≤ (PA : Int) / (g : Int) ∧ (PA : Int) / (g : Int) ≤ 9223372036854775807 :=
          ⟨Int.ediv_nonneg (by omega) (by omega), Int.le_trans (Int.ediv_le_self _ (by omega)) (by omega)⟩
        have d2 : 0 ≤ (PB : Int) / (g : Int) ∧ (PB : Int) / (g : Int) ≤ 9223372036854775807 :=
          ⟨Int.ediv_nonneg (by omega) (by omega), Int.le_trans (Int.ediv_le_self _ (by omega)) (by omega)⟩
        obtain ⟨d1a, d1b⟩ := d1
        obtain ⟨d2a, d2b⟩ := d2
        go_quiet (fail)
        go_wp2
        go_ret3
        refine ⟨?_, below_drewN (bthen Hb.out B2.out) _⟩
        rw [HPA.out, HPB.out, HG.out, Int.natCast_ediv, Int.natCast_ediv]
        rfl
  · simp only [hs]
    go_enter Try.func63, Try.ntmps63
    go_wp2_with (go_at_call 58; refine (validTrain_any _ _ _ ps _ Hl.out hn HT.out Hw.out).mono ?_; rintro e w1 ⟨rfl, b1⟩; have B1 := Lib.hid b1; clear b1)
    go_ret3
    exact ⟨rfl, B1.out⟩
set_option maxRecDepth 100000 in
theorem specRatioOf_any (A : Option Addr) (n c : Nat) (ps : List Pr) (w : World) (hl : ps.length = n) (hn : n ≤ 1048576) (hT : Tr w w.heap.size A ps) (hw : ∀ p ∈ ps, p.wf) :
    Calls Try.prog 62 #[.slice A n c] w fun e w' => e = .returned (.tuple #[.int .i64 (numR ps), .int .i64 (denR ps), .int .i64 (codeTr ps)]) ∧ Below w.heap.size w w' := by
  have Hl := Lib.hid hl; clear hl
  have HT := Lib.hid hT; clear hT
  have Hw := Lib.hid hw; clear hw
  unfold numR denR codeTr
  rcases Bool.eq_false_or_eq_true (okTr ps) with hs | hs
  · simp only [hs, if_true]
    have Hs := Lib.hid hs
    go_enter Try.func62, Try.ntmps62
    go_wp2_with (go_at_call 80; refine (l01Ok_any _ _ _ ps _ Hl.out hn HT.out Hw.out).mono ?_; rintro e w1 ⟨rfl, rfl⟩)
    clear hs
    go_loopw [5, 6, 7] (fun u v i wr => ∃ k : Nat, k ≤ n ∧ i = .int .i64 k ∧ u = .int .i64 (prodA (ps.take k)) ∧ v = .int .i64 (prodB (ps.take k)) ∧ Below w.heap.size w wr) (fun _ _ i _ => n - (intOf i).toNat)
    case atStart => exact ⟨0, Nat.zero_le _, rfl, rfl, rfl, Below.refl _ _⟩
    case round =>
      obtain ⟨k, hk, rfl, rfl, rfl, hb⟩ := hrel
      have Hb := Lib.hid hb; clear hb
      by_cases hlt : k < n
      · have hkl : k < ps.length := by have := Hl.out; omega
        obtain ⟨b, off, rfl, hbs, hc⟩ := HT.out (by omega)
        obtain ⟨p, hp⟩ : ∃ p, ps[k]? = some p := ⟨_, List.getElem?_eq_getElem hkl⟩
        obtain ⟨⟨wa1, wa2⟩, ⟨wb1, wb2⟩, _⟩ := teeth_bounds Hs.out (List.mem_of_getElem? hp)
        obtain ⟨c0, c1, c2⟩ := cells3 (rangeAt_of_block (hc k p hp) (Hb.out.block b hbs))
        have EA := prodA_succ hp
        have EB := prodB_succ hp
        have ⟨⟨_, q2⟩, ⟨_, q4⟩⟩ := prod_bound Hs.out (k + 1) hkl
        have q5 := pow_bound (k := k + 1) (by have := (size_bounds Hs.out).2; omega)
        have ea : (prodA (ps.take k) : Int) * p.a = (prodA (ps.take (k + 1)) : Int) := by
          rw [EA, Int.natCast_mul, Int.toNat_of_nonneg (by omega)]
        have eb : (prodB (ps.take k) : Int) * p.b = (prodB (ps.take (k + 1)) : Int) := by
          rw [EB, Int.natCast_mul, Int.toNat_of_nonneg (by omega)]
        have wA : IntKind.i64.wrap ((prodA (ps.take k) : Int) * p.a) = (prodA (ps.take (k + 1)) : Int) := by rw [ea]; exact IntWalk.i64_in _ (by omega)
        have wB : IntKind.i64.wrap ((prodB (ps.take k) : Int) * p.b) = (prodB (ps.take (k + 1)) : Int) := by rw [eb]; exact IntWalk.i64_in _ (by omega)
        clear EA EB ea eb q2 q4 q5 hc hkl
        generalize prodA (ps.take k) = QA at *
        generalize prodB (ps.take k) = QB at *
        generalize hPA : prodA (ps.take (k + 1)) = PA at *
        generalize hPB : prodB (ps.take (k + 1)) = PB at *
        have HPA := Lib.hid hPA; clear hPA
        have HPB := Lib.hid hPB; clear hPB
        have Hp := Lib.hid hp; clear hp
        go_wp2
        have Hb2 := Hb.out
        go_roundw
        case rel => exact ⟨k + 1, by omega, by go_num, by rw [HPA.out], by rw [HPB.out], Hb2⟩
        case measure => simp [intOf]; omega
      · have hkn : k = n := by omega
        subst hkn
        have e1 : ps.take k = ps := List.take_of_length_le (by have := Hl.out; omega)
        have ⟨⟨q1, q2⟩, ⟨q3, q4⟩⟩ := prod_bound Hs.out k (by have := Hl.out; omega)
        have q5 := pow_bound (k := k) (by have := (size_bounds Hs.out).2; have := Hl.out; omega)
        rw [e1] at q1 q2 q3 q4
        rw [e1]
        have hx1 : prodA ps ≤ 9223372036854775807 := by omega
        have hx2 : prodB ps ≤ 9223372036854775807 := by omega
        have hg : 1 ≤ Nat.gcd (prodA ps) (prodB ps) := Nat.gcd_pos_of_pos_left _ q1
        clear q2 q4 q5 e1 q1 q3
        go_wp2_with (go_at_call 119; refine (specGcd_any _ _ _ hx1 hx2).mono ?_; rintro e w2 ⟨rfl, b2⟩; have B2 := Lib.hid b2; clear b2)
        generalize hPA : prodA ps = PA at *
        generalize hPB : prodB ps = PB at *
        generalize hG : Nat.gcd PA PB = g at *
        have HPA := Lib.hid hPA; clear hPA
        have HPB := Lib.hid hPB; clear hPB
        have HG := Lib.hid hG; clear hG
        have hg1 : (1 : Int) ≤ (g : Int) := by omega
        have hg2 : ((g : Int) == 0) = false := by simp; omega
        have d1 : 0 ≤ (PA : Int) / (g : Int) ∧ (PA : Int) / (g : Int) ≤ 9223372036854775807 :=
          ⟨Int.ediv_nonneg (by omega) (by omega), Int.le_trans (Int.ediv_le_self _ (by omega)) (by omega)⟩
        have d2 : 0 ≤ (PB : Int) / (g : Int) ∧ (PB : Int) / (g : Int) ≤ 9223372036854775807 :=
          ⟨Int.ediv_nonneg (by omega) (by omega), Int.le_trans (Int.ediv_le_self _ (by omega)) (by omega)⟩
        obtain ⟨d1a, d1b⟩ := d1
        obtain ⟨d2a, d2b⟩ := d2
        go_quiet (fail)
        go_wp2
        go_ret3
        refine ⟨?_, below_drewN (bthen Hb.out B2.out) _⟩
        rw [HPA.out, HPB.out, HG.out, Int.natCast_ediv, Int.natCast_ediv]
        rfl
  · simp only [hs]
    go_enter Try.func62, Try.ntmps62
    go_wp2_with (go_at_call 80; refine (l01Ok_any _ _ _ ps _ Hl.out hn HT.out Hw.out).mono ?_; rintro e w1 ⟨rfl, rfl⟩)
    go_ret3
    exact ⟨rfl, Below.refl _ _⟩
end Go.Proofs.Ytdfookgncokgjaa
