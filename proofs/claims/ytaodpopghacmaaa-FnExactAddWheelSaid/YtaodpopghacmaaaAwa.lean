/-
  The wheel that is best added: the program's.
-/
import Derived.Test.YtaodpopghacmaaaPtc
import Derived.Test.YtaodpopghacmaaaAwm
import Derived.Test.YtaodpopghacmaaaMc
import Derived.Scope
namespace Go.Proofs.Ytaodpopghacmaaa
open Go.RowKit Go.ChangeShapes Go.WideShapes Go.Deep
attribute [local go_sem ↓] Go.wp_at_zero Go.wp_at_succ
set_option linter.unusedVariables false
set_option linter.unusedSimpArgs false
set_option maxRecDepth 100000
theorem iiN_news {w : World} {b off : Nat} {zs : List Int} (hc : ∀ i z, zs[i]? = some z → w.cell? ⟨b, off + i, none⟩ = some (.int .i16 z)) : ∀ j u, (zs.map (Value.int .i16))[j]? = some u → w.cell? ((⟨b, off, none⟩ : Addr).add j) = some u := fun j u hu => by
  have hadd : (⟨b, off, none⟩ : Addr).add j = ⟨b, off + j, none⟩ := by unfold Addr.add; split <;> simp_all
  rw [hadd]
  rw [List.getElem?_map] at hu
  cases hz : zs[j]? with
  | none => rw [hz] at hu; cases hu
  | some z => rw [hz] at hu; cases hu; exact hc j z hz
theorem ii_own {w : World} {base n : Nat} {v : Value} {zs : List Int} (h : w.ownsRow base 47 1 v n (zs.map (Value.int .i16))) (h0 : 0 < n) : ∃ g cap, v = .slice (some ⟨g, 0, none⟩) n cap ∧ Ii w w.heap.size (some ⟨g, 0, none⟩) zs := by
  have hb := own_base h
  obtain ⟨h1, h2⟩ := h
  rw [List.length_map, Nat.mul_one] at h1
  rcases h2 with ⟨rfl, h3⟩ | ⟨g, cap, cur, rfl, hg, hh, hnc, hcap, hcs, ht⟩
  · omega
  · refine ⟨g, cap, rfl, fun _ => ⟨g, 0, rfl, (hb g rfl).2, fun i z hz => ?_⟩⟩
    have hi : i < zs.length := (List.getElem?_eq_some_iff.1 hz).1
    rw [Nat.zero_add, cell_of_row _ _ i _ _ _ hh]
    have e1 := congrArg (fun l => l[i]?) ht
    simp only [List.getElem?_take, List.getElem?_map, hz] at e1
    rw [if_pos (by omega)] at e1
    simpa using e1
set_option maxHeartbeats 2000000 in
theorem cloneI_any (A : Option Addr) (n c : Nat) (zs : List Int) (w : World) (hl : zs.length = n) (h1 : 1 ≤ n) (hn : n ≤ 1048576) (hT : Ii w w.heap.size A zs) :
    Calls Try.prog 60 #[.slice A n c] w fun e w' => ∃ v, e = .returned v ∧ w'.ownsRow w.heap.size 47 1 v n (zs.map (Value.int .i16)) ∧ Below w.heap.size w w' := by
  obtain ⟨i0, hi, hz0, hz1, hz2⟩ := info_parts infoI16
  obtain ⟨b, off, rfl, hbs, hc⟩ := hT (by omega)
  have Hl := Lib.hid hl
  have N1 : Hid (∀ j u, (zs.map (Value.int .i16))[j]? = some u → (w.alloc (.cells #[] 47)).cell? ((⟨b, off, none⟩ : Addr).add j) = some u) := iiN_news fun i f hf => (World.cell?_of_block (a := ⟨b, off + i, none⟩) (((Below.refl _ w).alloc (Nat.le_refl _) _).block b hbs)).trans (hc i f hf)
  have heq : ∀ w, (binOp .eql 22 (.slice (some ⟨b, off, none⟩) n c) (.slice none 0 0)).run Try.prog w = .ok (.bool false) w := fun w => Lib.run_eql_slice_nil (P := Try.prog) w 22 47 (some ⟨b, off, none⟩) n c 0 0 Try.underlying22
  clear hc hl hT
  go_enter Try.func60, Try.ntmps60
  go_wp2_with (at_builtin; refine wpList_append_own _ rfl _ _ 22 rfl w.heap.size 47 i0 _ 1 2 Try.underlying22 hi hz0 hz1 hz2 rfl (by omega) _ 0 [] rfl (own_empty _ _ _ _ (Nat.le_refl _)) _ n _ (zs.map (Value.int .i16)) rfl (by simp; exact Hl.out) N1.out (by intro u hu; obtain ⟨f, _, rfl⟩ := List.mem_map.1 hu; rfl) (by unfold maxLen; omega) (by omega) (by simp) ?_; intro v9 w9 hown9 hgrow9 hif9)
  all_goals
    have B9 : Hid (Below w.heap.size w w9) := ((Below.refl _ w).alloc (Nat.le_refl _) _).grown hgrow9 (by simp) (fun k h => by cases h; exact Nat.le_refl _)
    rw [Nat.zero_add, List.nil_append] at hown9
    have O9 := Lib.hid hown9
    clear hown9 hgrow9 hif9
    go_wp2
    go_ret
    exact ⟨_, rfl, O9.out, B9.out⟩
/-- By how much the best pair is off with one wheel more. -/
def lsP (zs : List Int) (t : Nat) (T : Int) : Nat := (bestF (offP (zs ++ [T]) t) (prU (zs.length + 1) (zs.length + 1) 0) ((0, 0), 2139095039)).2
/-- The best wheel of the first k, and by how much it is off. -/
def awS (zs : List Int) (t : Nat) : Nat → Int × Nat
  | 0 => (0, 2139095039)
  | k + 1 => if (6 + (k : Int)) ∈ zs then awS zs t k else if oLt (lsP zs t (6 + (k : Int))) (awS zs t k).2 then (6 + (k : Int), lsP zs t (6 + (k : Int))) else awS zs t k
theorem awS_in {zs : List Int} {t k : Nat} (h : (6 + (k : Int)) ∈ zs) : awS zs t (k + 1) = awS zs t k := by rw [awS, if_pos h]
theorem awS_out {zs : List Int} {t k : Nat} (h : ¬ (6 + (k : Int)) ∈ zs) : awS zs t (k + 1) = if oLt (lsP zs t (6 + (k : Int))) (awS zs t k).2 then (6 + (k : Int), lsP zs t (6 + (k : Int))) else awS zs t k := by rw [awS, if_neg h]
theorem awS_le (zs : List Int) (t : Nat) : ∀ k, 0 ≤ (awS zs t k).1 ∧ (awS zs t k).1 ≤ 6 + (k : Int)
  | 0 => by show (0 : Int) ≤ 0 ∧ (0 : Int) ≤ 6 + ((0 : Nat) : Int); omega
  | k + 1 => by
    have := awS_le zs t k
    by_cases h : (6 + (k : Int)) ∈ zs
    · rw [awS_in h]; omega
    · rw [awS_out h]
      split
      · show 0 ≤ 6 + (k : Int) ∧ 6 + (k : Int) ≤ _; omega
      · omega
theorem te_snoc {zs : List Int} (hz : okZ zs = true) (hn : zs.length < 24) {T : Int} (h1 : 6 ≤ T) (h2 : T ≤ 200) : TeZ (zs ++ [T]) := by
  have hlen := (okZ_at hz).1
  refine ⟨by rw [List.length_append]; simp; omega, fun i z h => ?_⟩
  rcases Nat.lt_or_ge i zs.length with h3 | h3
  · rw [List.getElem?_append_left h3] at h
    exact okZ_teeth hz h
  · rw [List.getElem?_append_right h3] at h
    have : i - zs.length = 0 := by
      rcases Nat.eq_zero_or_pos (i - zs.length) with h4 | h4
      · exact h4
      · rw [List.getElem?_eq_none (by simp; omega)] at h; cases h
    rw [this] at h
    simp at h
    omega
set_option maxHeartbeats 4000000 in
theorem implAdd_ok (A : Option Addr) (n c : Nat) (zs : List Int) (t : Nat) (w : World) (hl : zs.length = n) (hw : ∀ z ∈ zs, I16 z) (hz : okZ zs = true) (ht : tgB t = true) (hn24 : n < 24) (hT : Ii w w.heap.size A zs) :
    Calls Try.prog 20 #[.slice A n c, .float .f32 t] w (RV (.tuple #[.int .i64 (awS zs t 195).1, .float .f32 (awS zs t 195).2, .int .i64 0]) w) := by
  have hlen := (okZ_at hz).1
  rw [hl] at hlen
  have hn2 := hlen.1
  obtain ⟨i0, hi0, hz0, hz1, hz2⟩ := info_parts infoI16
  have HG := Lib.hid (by have := isTarget_any t w; rw [ht] at this; exact this : Calls Try.prog 51 #[.float .f32 t] w fun e w' => e = .returned (.bool true) ∧ w = w')
  have HE := Lib.hid (boxError_is (b := true) (K := 0) (by rw [hz]; rfl) hl (by omega) hw hT : Calls Try.prog 50 #[.slice A n c, .bool true] w (RV (.int .i64 0) w))
  have HC := Lib.hid (fun (W : World) (hb : Below w.heap.size w W) => cloneI_any A n c zs W hl (by omega) (by omega) (hT.keep hb))
  have HB := Lib.hid (fun (k : Nat) (hk : k < 195) (A : Option Addr) (c : Nat) (W : World) (h : Ii W W.heap.size A (zs ++ [6 + (k : Int)])) => bestPair_any A (n + 1) c (zs ++ [6 + (k : Int)]) t W (by simp [hl]) (te_snoc hz (by omega) (by omega) (by omega)) ht h)
  obtain ⟨R, hR⟩ : ∃ R : Nat → ((Nat × Nat) × Nat), ∀ k, R k = bestF (offP (zs ++ [6 + (k : Int)]) t) (prU (n + 1) (n + 1) 0) ((0, 0), 2139095039) := ⟨_, fun _ => rfl⟩
  simp only [← hR] at HB
  have HRL : Hid (∀ k : Nat, lsP zs t (6 + (k : Int)) = (R k).2) := fun k => by rw [hR, ← hl]; rfl
  have hin := @awS_in zs t
  have hout := @awS_out zs t
  have hle := awS_le zs t
  simp only [HRL.out] at hout
  have h0 : awS zs t 0 = (0, 2139095039) := rfl
  generalize awS zs t = S at *
  have HIN := Lib.hid (fun k => @hin k); have HOUT := Lib.hid (fun k => @hout k); have HLE := Lib.hid hle; have H0 := Lib.hid h0
  have Hl := Lib.hid hl
  have HT := Lib.hid hT
  clear hin hout hle h0 hR HRL hlen hl hT hw hz ht
  go_enter Try.func20, Try.ntmps20
  go_wp2_with fail
  refine wp_scope_straight ?_
  go_wp2_with fail
  refine HG.out.mono ?_
  rintro e w1 ⟨rfl, rfl⟩
  go_wp2_with fail
  refine HE.out.mono ?_
  rintro e w1 ⟨rfl, b1⟩
  have B1 := Lib.hid b1
  clear b1
  have D1 : Hid (Below w.heap.size w w1) := B1.out
  clear HG HE
  have HCel := Lib.hid (fun (W : World) (hb : Below w.heap.size w W) (j : Nat) (hj : j < n) => (show ∃ b o, A = some ⟨b, o, none⟩ ∧ W.cell? ⟨b, o + j, none⟩ = some (.int .i16 (zs.getD j 0)) from by
    obtain ⟨b, o, e, hlt, hc⟩ := HT.out (by have := Hl.out; omega)
    have hjz : j < zs.length := by have := Hl.out; omega
    have h1 : zs[j]? = some zs[j] := List.getElem?_eq_getElem hjz
    exact ⟨b, o, e, by rw [World.cell?_of_block (a := ⟨b, o + j, none⟩) (hb.block b hlt), getD_of h1]; exact hc j _ h1⟩))
  have n24 : ((n : Int) == 24) = false := beq_eq_false_iff_ne.2 (by omega)
  go_wp2_with fail
  refine wp_label ?_
  go_wp2_with fail
  go_loopw [8, 9, 10, 12, 13, 14, 15] (fun v8 v9 v10 _ _ _ _ wr => ∃ k : Nat, k ≤ 195 ∧ v10 = .int .i16 (6 + (k : Int)) ∧ v8 = .int .i16 (S k).1 ∧ v9 = .float .f32 (S k).2 ∧ Hid (Below w.heap.size w wr)) (fun _ _ v10 _ _ _ _ _ => 201 - (intOf v10).toNat)
  case atStart => exact ⟨0, by omega, rfl, by rw [H0.out], by rw [H0.out], D1⟩
  case round =>
    obtain ⟨k, hk, rfl, rfl, rfl, hB⟩ := hrel
    by_cases hlt : k < 195
    · have y1 : 6 + (k : Int) ≤ 200 := by omega
      have y2 : IntKind.i16.wrap (6 + (k : Int) + 1) = 6 + ((k + 1 : Nat) : Int) := (IntWalk.i16_in _ (by omega)).trans (by omega)
      go_wp2_with fail
      go_loopw [12, 32] (fun _ v32 wr2 => ∃ j : Nat, j ≤ n ∧ v32 = .int .i64 j ∧ Hid (∀ i, i < j → zs.getD i 0 ≠ 6 + (k : Int)) ∧ wr = wr2) (fun _ v32 _ => n - (intOf v32).toNat)
      case atStart => exact ⟨0, Nat.zero_le _, rfl, fun _ h => absurd h (by omega), rfl⟩
      case round =>
        obtain ⟨j, hj, rfl, hne, rfl⟩ := hrel
        by_cases hjl : j < n
        · obtain ⟨b, o, rfl, cz⟩ := HCel.out wr hB.out j hjl
          have j0 : (0 : Int) ≤ (j : Int) := by omega
          have j1 : (j : Int) < (n : Int) := by omega
          generalize hz : zs.getD j 0 = z at *
          by_cases hzT : z = 6 + (k : Int)
          · have hmem : 6 + (k : Int) ∈ zs := by
              have hjz : j < zs.length := by have := Hl.out; omega
              have h1 : zs[j]? = some zs[j] := List.getElem?_eq_getElem hjz
              rw [← hzT, ← hz, getD_of h1]
              exact List.getElem_mem _
            have e1 := HIN.out k hmem
            have E1 := Lib.hid e1
            subst hzT
            clear hz hmem e1
            go_wp2
            exact ⟨⟨k + 1, by omega, by go_num, by rw [E1.out], by rw [E1.out], hB⟩, by simp [intOf]; omega⟩
          · have hz2 : (z == 6 + (k : Int)) = false := beq_eq_false_iff_ne.2 hzT
            have hne2 : Hid (∀ i, i < j + 1 → zs.getD i 0 ≠ 6 + (k : Int)) := fun i hi => by
              rcases (by omega : i < j ∨ i = j) with h | rfl
              · exact hne.out i h
              · rw [hz]; exact hzT
            clear hz hzT
            go_wp2
            exact ⟨⟨j + 1, by omega, by go_num, hne2, trivial⟩, by simp [intOf]; omega⟩
        · obtain rfl : j = n := by omega
          have j1 : ¬ (j : Int) < (j : Int) := by omega
          have hmem : ¬ 6 + (k : Int) ∈ zs := fun h => by
            obtain ⟨i, hi⟩ := List.getElem?_of_mem h
            have h2 := (List.getElem?_eq_some_iff.1 hi).1
            exact hne.out i (by have := Hl.out; omega) (getD_of hi)
          have EO := Lib.hid (HOUT.out k hmem)
          clear hmem hne
          go_wp2_with fail
          refine (HC.out _ hB.out).mono ?_
          rintro e w2 ⟨v, rfl, hrow, b2⟩
          have Hrow := Lib.hid hrow
          have D2 : Hid (Below w.heap.size w w2) := b_then hB.out b2
          have hs2 := b2.size
          clear hrow b2
          have jn : 1 ≤ j := by omega
          have j24 : j < 24 := by omega
          go_wp2_with (at_builtin; refine wpList_append_own _ rfl _ _ 22 rfl wr.heap.size 47 i0 _ 1 2 Try.underlying22 hi0 hz0 hz1 hz2 rfl (by decide) _ j _ rfl (Hrow.out.alloc _) ⟨w2.heap.size, 0, none⟩ 1 1 [.int .i16 (6 + (k : Int))] rfl rfl (World.news_of_block (cs := #[_]) (heap_alloc_new _ _)) (by intro u hu; simp at hu; subst hu; rfl) (by unfold maxLen; omega) (by omega) (by simp; omega) ?_; intro v9 w9 hown9 hgrow9 _)
          have B9 : Hid (Below w.heap.size w w9) := (b_alloc D2.out _).grown hgrow9 (by have := D2.out.size; simp; omega) (fun k h => by have := (own_base Hrow.out k h).1; have := hB.out.size; omega)
          have hrow9 : w9.ownsRow wr.heap.size 47 1 v9 (j + 1) ((zs ++ [6 + (k : Int)]).map (Value.int .i16)) := by rw [List.map_append]; exact hown9
          obtain ⟨g, cap, rfl, hI⟩ := ii_own hrow9 (by omega)
          have HI := Lib.hid hI
          clear hown9 hgrow9 hrow9 hI
          go_wp2_with fail
          refine (HB.out k hlt _ _ _ HI.out).mono ?_
          rintro e w3 ⟨rfl, b3⟩
          have B3 : Hid (Below w.heap.size w w3) := b_then B9.out b3
          clear b3
          generalize R k = r at *
          cases hlt2 : oLt r.2 (S k).2
          · have t1 := (tf_lt hlt2).2 rfl
            have e1 : S (k + 1) = S k := by rw [EO.out, hlt2]; rfl
            have E1 := Lib.hid e1
            clear hlt2 e1
            go_wp2
            go_roundw
            case rel => exact ⟨k + 1, by omega, by go_num, by rw [E1.out], by rw [E1.out], B3⟩
            case measure => simp [intOf]; omega
          · have t1 := (tf_lt hlt2).1 rfl
            have e1 : S (k + 1) = (6 + (k : Int), r.2) := by rw [EO.out, hlt2]; rfl
            have E1 := Lib.hid e1
            clear hlt2 e1
            go_wp2
            go_roundw
            case rel => exact ⟨k + 1, by omega, by go_num, by rw [E1.out], by rw [E1.out], B3⟩
            case measure => simp [intOf]; omega
    · obtain rfl : k = 195 := by omega
      have y1 : ¬ 6 + ((195 : Nat) : Int) ≤ 200 := by omega
      have hl := HLE.out 195
      have w1 : IntKind.i64.wrap (S 195).1 = (S 195).1 := IntWalk.i64_in _ (by omega)
      generalize S 195 = s at *
      go_wp2
      exact bodyPost_ret (v := .tuple #[_, _, _]) (by simp [results, Try.results20, go_sem]) rfl ⟨rfl, hB.out⟩
end Go.Proofs.Ytaodpopghacmaaa
