/-
  What FnFractions asks of the lists and of the nearest fraction; how far two fractions are apart; two equal lists.
-/
import Derived.Test.YtjkgiknklkfipaaFfa
import Derived.Test.YtjkgiknklkfipaaFfb
import Derived.BigQuiet
import Derived.ChangeKeysEq
import Derived.Deep.RegionLaw
namespace Go.Proofs.Ytjkgiknklkfipaa
open Go.RowKit Go.ChangeShapes Go.WideShapes Go.Deep
attribute [local go_sem ↓] Go.wp_at_zero Go.wp_at_succ
set_option linter.unusedVariables false
set_option linter.unusedSimpArgs false
set_option maxRecDepth 100000
theorem chain_get {N D m : Nat} : ∀ (l : List Fr) (g q : Nat), Chain N D m g q l → ∀ (i : Nat) (c : Fr), l[i]? = some c → ∃ P Q r : Nat, c = ⟨(P : Int), (Q : Int)⟩ ∧ gapI N D P Q = r ∧ r ≤ g ∧ q ≤ Q ∧ 1 ≤ Q ∧ Q ≤ m
  | [], _, _, _, i, c, h => by simp at h
  | a :: l, g, q, hc, i, c, h => by
    obtain ⟨P, Q, r, h1, h2, h3, h4, h5, h6, h7⟩ := hc
    cases i with
    | zero =>
      simp at h
      subst h
      exact ⟨P, Q, r, h1, h2, h3, h4, h5, h6⟩
    | succ i =>
      obtain ⟨P', Q', r', g1, g2, g3, g4, g5, g6⟩ := chain_get l r Q h7 i c (by simpa using h)
      exact ⟨P', Q', r', g1, g2, by omega, by omega, g5, g6⟩
theorem chain_step {N D m : Nat} : ∀ (l : List Fr) (g q : Nat), Chain N D m g q l → ∀ (i : Nat) (c d : Fr), l[i]? = some c → l[i + 1]? = some d → ∃ P Q r P' Q' r' : Nat, c = ⟨(P : Int), (Q : Int)⟩ ∧ d = ⟨(P' : Int), (Q' : Int)⟩ ∧ gapI N D P Q = r ∧ gapI N D P' Q' = r' ∧ r' ≤ r ∧ Q ≤ Q' ∧ r ≤ g
  | [], _, _, _, i, c, d, h, _ => by simp at h
  | a :: l, g, q, hc, i, c, d, h, hd => by
    obtain ⟨P, Q, r, h1, h2, h3, h4, h5, h6, h7⟩ := hc
    cases i with
    | zero =>
      simp at h
      subst h
      obtain ⟨P', Q', r', g1, g2, g3, g4, g5, g6⟩ := chain_get l r Q h7 0 d (by simpa using hd)
      exact ⟨P, Q, r, P', Q', r', h1, g1, h2, g2, g3, g4, h3⟩
    | succ i =>
      obtain ⟨P1, Q1, r1, P2, Q2, r2, g1, g2, g3, g4, g5, g6, g7⟩ := chain_step l r Q h7 i c d (by simpa using h) (by simpa using hd)
      exact ⟨P1, Q1, r1, P2, Q2, r2, g1, g2, g3, g4, g5, g6, by omega⟩
theorem nfb_of_gap {N D P Q r : Nat} (h : gapI N D P Q = r) (hr : r ≤ D) (h1 : 1 ≤ Q) (h2 : Q ≤ 1000) : NfB N D (P, Q) := by
  refine ⟨h1, h2, ?_, ?_⟩ <;>
  · unfold gapI at h
    have e1 : ((P * D : Nat) : Int) = (P : Int) * D := Int.natCast_mul P D
    have e2 : ((N * Q : Nat) : Int) = (N : Int) * Q := Int.natCast_mul N Q
    rw [← e1, ← e2] at h
    simp only
    generalize P * D = x at *
    generalize N * Q = y at *
    omega
theorem nfR_ok {N D : Nat} (hD : 0 < D) : ∀ (f d : Nat) (b : Nat × Nat), 1 ≤ d → d + f ≤ 1001 → NfB N D b → NfB N D (nfR N D f d b)
  | 0, d, b, _, _, hb => hb
  | f + 1, d, b, h1, h2, hb => by
    obtain ⟨l1, l2⟩ := NfB.low (N := N) hD h1 (by omega)
    exact nfR_ok hD f (d + 1) _ (by omega) (by omega) (NfB.step (NfB.step hb l1) l2)
/-- What the law asks of the nearest fraction with a denominator up to m. -/
theorem near_all {N D m : Nat} (hD : 0 < D) (h1 : 1 ≤ m) (h2 : m ≤ 1000) : NfB N D (nfA N D m) ∧ (nfA N D m).2 ≤ m ∧ ∀ d k : Nat, 1 ≤ d → d ≤ m → k ≤ 1 → NoFar N D (nfA N D m) (N * d / D + k, d) := by
  have hs : NfB N D (N / D, 1) := NfB.start hD
  have h0 : ∀ c, Tried N D 1 c → NoFar N D (N / D, 1) c := fun c hc => by
    obtain ⟨a, b, _⟩ := hc
    omega
  obtain ⟨a1, a2, a3⟩ := nfR_far (N := N) (D := D) m 1 (N / D, 1) (Nat.le_refl _) (Nat.le_refl _) (Nat.le_refl _) h0
  refine ⟨nfR_ok hD m 1 _ (Nat.le_refl _) (by omega) hs, nfR_den m 1 _ (by simpa using h1) (by omega), fun d k k1 k2 k3 => ?_⟩
  refine a3 (N * d / D + k, d) ⟨k1, by show d < 1 + m; omega, ?_⟩
  show N * d / D + k = N * d / D ∨ N * d / D + k = N * d / D + 1
  omega
set_option maxHeartbeats 2000000 in
theorem far_any {N D n d : Nat} (hR : NfR N D) (h : NfB N D (n, d)) (w : World) : Calls Try.prog 17 #[.agg #[.int .i64 (N : Int), .int .i64 (D : Int)], .agg #[.int .i64 (n : Int), .int .i64 (d : Int)]] w (RV (.tuple #[.int .i64 (gapI N D n d), .int .i64 (d : Int)]) w) := by
  obtain ⟨x, y, e1, e2, e3, b1, b2⟩ := nf_words hR h
  generalize gapI N D n d = z at *
  have hz1 : (x : Int) - y > (y : Int) - x → z = (x : Int) - y := fun h => by rw [e3, if_pos h]
  have hz2 : ¬ ((x : Int) - y > (y : Int) - x) → z = (y : Int) - x := fun h => by rw [e3, if_neg h]
  have HZ1 := Lib.hid hz1; have HZ2 := Lib.hid hz2
  have wx : IntKind.i64.wrap (x : Int) = (x : Int) := IntWalk.i64_in _ (by omega)
  have wy : IntKind.i64.wrap (y : Int) = (y : Int) := IntWalk.i64_in _ (by omega)
  clear hz1 hz2
  have K0 : Blk (TwF w N D n d) w.heap.size #[.int .i64 (N : Int), .int .i64 (D : Int)] 28 := (heap_alloc_old _ _ (by simp)).trans (heap_alloc_at rfl)
  have K1 : Blk (TwF w N D n d) (w.heap.size + 1) #[.int .i64 (n : Int), .int .i64 (d : Int)] 28 := heap_alloc_at (by simp)
  have c0 := K0.cell 0; have c1 := K0.cell 1; have d0 := K1.cell 0; have d1 := K1.cell 1
  simp at c0 c1 d0 d1
  unfold TwF at c0 c1 d0 d1
  clear K0 K1 hR h e3
  have wneg : IntKind.i64.wrap (-((x : Int) - (y : Int))) = -((x : Int) - (y : Int)) := IntWalk.i64_in _ (by omega)
  have bw : Below w.heap.size w ((w.alloc (.cells #[.int .i64 (N : Int), .int .i64 (D : Int)] 28)).alloc (.cells #[.int .i64 (n : Int), .int .i64 (d : Int)] 28)) := b_alloc (b_alloc (Below.refl _ _) _) _
  have BW := Lib.hid bw
  clear bw
  go_enter Try.func17, Try.ntmps17
  go_upto_region 2 with fail
  go_cut [4, 5] (fun s4 s5 wx => s4 = .int .i64 z ∧ s5 = .int .i64 (d : Int) ∧ Below w.heap.size w wx)
  case first =>
    first | go_region_law (fail) | fail
    all_goals (go_wp2_with fail)
    all_goals
      go_meet
      have hz1 := HZ1.out
      have hz2 := HZ2.out
      refine ⟨congrArg (Value.int .i64) ?_, rfl, ?_⟩
      · omega
      · repeat (first | exact BW.out | refine b_drewN ?_ _ | refine b_drew ?_)
  case rest =>
    obtain ⟨rfl, rfl, hb⟩ := hcut
    have HB := Lib.hid hb
    clear hb
    go_wp2
    go_ret2
    exact ⟨rfl, HB.out⟩
set_option maxHeartbeats 2000000 in
theorem sameFr_any (A A' : Option Addr) (n c c' : Nat) (ps : List Fr) (w : World) (hl : ps.length = n) (hn : n ≤ 40) (hT : Fr.L w w.heap.size A ps) (hT' : Fr.L w w.heap.size A' ps) :
    Calls Try.prog 16 #[.slice A n c, .slice A' n c'] w fun e w' => e = .returned (.bool true) ∧ Below w.heap.size w w' := by
  have Hl := Lib.hid hl; clear hl
  have HT := Lib.hid hT; clear hT
  have HT' := Lib.hid hT'; clear hT'
  go_enter Try.func16, Try.ntmps16
  go_wp2
  go_loopw [5] (fun i wr => ∃ k : Nat, k ≤ n ∧ i = .int .i64 k ∧ Below w.heap.size w wr) (fun i _ => n - (intOf i).toNat)
  case atStart => exact ⟨0, Nat.zero_le _, rfl, Below.refl _ _⟩
  case round =>
    obtain ⟨k, hk, rfl, hb⟩ := hrel
    have Hb := Lib.hid hb; clear hb
    by_cases hlt : k < n
    · have hkl : k < ps.length := by have := Hl.out; omega
      obtain ⟨b, off, rfl, hbs, hc⟩ := HT.out (by omega)
      obtain ⟨b', off', rfl, hbs', hc'⟩ := HT'.out (by omega)
      obtain ⟨p, hp⟩ : ∃ p, ps[k]? = some p := ⟨_, List.getElem?_eq_getElem hkl⟩
      obtain ⟨c0, c1⟩ := Fr.at (rangeAt_of_block (hc k p hp) (Hb.out.block b hbs))
      obtain ⟨d0, d1⟩ := Fr.at (rangeAt_of_block (hc' k p hp) (Hb.out.block b' hbs'))
      have z1 : (0 : Int) ≤ (k : Int) := by omega
      have z2 : (k : Int) < (n : Int) := by omega
      clear hc hc' hkl hp
      go_wp2_with fail
      go_quiet (fail)
      all_goals
        go_wp2
        go_roundw
        case rel => exact ⟨k + 1, by omega, by go_num, by first | exact b_drewN Hb.out _ | exact Hb.out.drew | exact Hb.out⟩
        case measure => simp [intOf]; omega
    · have hkn : k = n := by omega
      subst hkn
      go_wp2
      go_ret
      exact ⟨rfl, Hb.out⟩
end Go.Proofs.Ytjkgiknklkfipaa
