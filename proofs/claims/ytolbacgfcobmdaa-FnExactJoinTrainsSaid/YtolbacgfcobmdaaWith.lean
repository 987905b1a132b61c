/-
  A train with another loss.
-/
import Derived.Test.YtolbacgfcobmdaaJoin
import Derived.Test.YtolbacgfcobmdaaPairK
import Derived.Laws.OwnMore
import Derived.Deep.RegionLawGrows
import Derived.Deep.DeepCutAuto
namespace Go.Proofs.Ytolbacgfcobmdaa
open Go.RowKit Go.ChangeShapes Go.WideShapes Go.Deep
attribute [local go_sem ↓] Go.wp_at_zero Go.wp_at_succ
set_option linter.unusedVariables false
set_option linter.unusedSimpArgs false
def withK (ps : List Pr) (j : Int) (l : Nat) : Int := if pairCode ps j = 0 then (if partB l then 0 else 2) else pairCode ps j
def withP (p : Pr) (l : Nat) : Pr := ⟨p.a, p.b, l⟩
def withT (ps : List Pr) (j : Int) (l : Nat) : List Pr := if withK ps j l = 0 then ps.set j.toNat (withP (pairAt ps j) l) else []
theorem withT_le (ps : List Pr) (j : Int) (l : Nat) : (withT ps j l).length ≤ 8 := by
  unfold withT
  split
  · rename_i h
    unfold withK at h
    split at h
    · rename_i h1
      have := (size_bounds (pair_there h1).1).2
      simpa using this
    · rename_i h1
      exact absurd h h1
  · simp
theorem flat_set : ∀ (ps : List Pr) (k : Nat) (p : Pr) (l : Nat), ps[k]? = some p → (ps.flatMap Pr.cells).set (k * 3 + 2) (.float .f32 l) = (ps.set k (withP p l)).flatMap Pr.cells := by
  intro ps
  induction ps with
  | nil => intro k p l h; simp at h
  | cons q rest ih =>
    intro k p l h
    cases k with
    | zero =>
      simp at h
      subst h
      rfl
    | succ k =>
      have hq : q.cells.length = 3 := rfl
      rw [List.flatMap_cons, List.set_cons_succ, List.flatMap_cons, List.set_append_right _ _ (by omega), hq]
      have e : (k + 1) * 3 + 2 - 3 = k * 3 + 2 := by omega
      rw [e, ih k p l (by simpa using h)]
theorem set_split {ps : List Pr} {k : Nat} {q : Pr} (hk : k < ps.length) : ps.set k q = (ps.take k ++ [q]) ++ ps.drop (k + 1) := by
  rw [List.set_eq_take_append_cons_drop, if_pos hk]
  simp
theorem row_form {w : World} {base : Nat} {e : TypeId} {size : Nat} {v : Value} {n : Nat} {xs : List Value} (h : w.ownsRow base e size v n xs) (hn : 0 < n) : ∃ g cap, v = .slice (some ⟨g, 0, none⟩) n cap ∧ base ≤ g := by
  rcases h.2 with ⟨_, h0⟩ | ⟨g, cap, cur, rfl, hb, _⟩
  · omega
  · exact ⟨g, cap, rfl, hb⟩
theorem code_cases (ps : List Pr) (j : Int) : pairCode ps j = 0 ∨ pairCode ps j = 1 ∨ pairCode ps j = 2 := by
  unfold pairCode
  split
  · split
    · exact .inl rfl
    · exact .inr (.inr rfl)
  · exact .inr (.inl rfl)
theorem l01Pair_is {ps : List Pr} {j k : Int} (h : pairCode ps j = k) (A : Option Addr) (n c : Nat) (w : World) (hl : ps.length = n) (hn : n ≤ 1048576) (hT : Tr w w.heap.size A ps) (hw : ∀ p ∈ ps, p.wf) :
    Calls Try.prog 41 #[.slice A n c, .int .i64 j] w fun e w' => e = .returned (.int .i64 k) ∧ w = w' := by
  subst h
  exact l01Pair_any A n c ps j w hl hn hT hw
set_option maxRecDepth 100000 in
set_option maxHeartbeats 2000000 in
theorem specWith_any (A : Option Addr) (n c : Nat) (ps : List Pr) (j : Int) (l : Nat) (w : World) (hl : ps.length = n) (hn : n ≤ 1048576) (hT : Tr w w.heap.size A ps) (hw : ∀ p ∈ ps, p.wf) :
    Calls Try.prog 15 #[.slice A n c, .int .i64 j, .float .f32 l] w (TLC (withT ps j l) (withK ps j l) w) := by
  obtain ⟨i0, hi, hz0, hz1, hz2⟩ := info_parts infoPair
  have Hl := Lib.hid hl; clear hl
  have HT := Lib.hid hT; clear hT
  have Hw := Lib.hid hw; clear hw
  rcases code_cases ps j with h0 | h0 | h0
  · rcases Bool.eq_false_or_eq_true (partB l) with h1 | h1
    · obtain ⟨hok, k, rfl, hk, hp⟩ := pair_there h0
      have e1 : withK ps (k : Int) l = 0 := by unfold withK; rw [h0, h1]; rfl
      have e2 : withT ps (k : Int) l = ps.set k (withP (pairAt ps (k : Int)) l) := by unfold withT; rw [if_pos e1]; rfl
      rw [e1, e2]
      clear e1 e2
      have H0 := Lib.hid h0; clear h0
      have Hp := Lib.hid hp; clear hp
      have zs := size_bounds hok
      clear hok
      rw [Hl.out] at zs hk
      have zk : (k : Int) < (n : Int) := by omega
      obtain ⟨b, off, rfl, hbs, hc⟩ := HT.out (by rw [Hl.out]; omega)
      have N1 : Hid (∀ j u, (ps.flatMap Pr.cells)[j]? = some u → (w.alloc (.cells #[] 62)).cell? ((⟨b, off, none⟩ : Addr).add j) = some u) := Tr.news fun i p hp => rangeAt_of_block (hc i p hp) (((Below.refl _ w).alloc (Nat.le_refl _) _).block b hbs)
      clear hc
      go_enter Try.func15, Try.ntmps15
      go_wp2_with (first
        | (go_at_call 41; refine (l01Pair_is H0.out _ _ _ _ Hl.out hn HT.out Hw.out).mono ?_; rintro e w1 ⟨rfl, rfl⟩)
        | (go_at_call 42; refine (l01Part_any _ _).mono ?_; rintro e w1 ⟨rfl, rfl⟩)
        | (at_builtin; refine wpList_append_own _ rfl (.tmp 24) (.tmp 25) 28 rfl w.heap.size 62 i0 _ 3 8 Try.underlying28 hi hz0 hz1 hz2 rfl (by omega) _ 0 [] rfl (own_empty _ _ _ _ (Nat.le_refl _)) _ n _ (ps.flatMap Pr.cells) rfl (by rw [flat_len, Hl.out]) N1.out (flat_one ps) (by unfold maxLen; omega) (by omega) (by simp) ?_; intro v9 w9 hown9 hgrow9 hif9; have B9 : Hid (Below w.heap.size w w9) := ((Below.refl _ _).alloc (Nat.le_refl _) _).grown hgrow9 (by simp) (fun k h => by cases h; exact Nat.le_refl _); have O9 := Lib.hid hown9; clear hown9 hgrow9 hif9; obtain ⟨g, cp, rfl, hg⟩ := row_form O9.out (by omega); have c2 : w9.cell? ⟨g, k * 3 + 2, none⟩ = some (.float .f32 (pairAt ps (k : Int)).l) := (O9.out.cellAt (k * 3 + 2) (by omega)).trans (flat_get ps k 2 _ _ Hp.out rfl); have z2 := O9.out.frozenAt (k * 3 + 2)))
      go_ret2
      have hst := O9.out.stored (k * 3 + 2) (.float .f32 l)
      rw [List.nil_append, flat_set ps k _ l Hp.out] at hst
      simp only [Nat.zero_add] at hst
      exact tlc_of_row hst.1 (B9.out.grown hst.2 B9.out.size (fun k h => by cases h; exact hg))
    · have e1 : withK ps j l = 2 := by unfold withK; rw [h0, h1]; rfl
      have e2 : withT ps j l = [] := by unfold withT; rw [e1]; rfl
      rw [e1, e2]
      clear e1 e2
      have H0 := Lib.hid h0; clear h0
      go_enter Try.func15, Try.ntmps15
      go_wp2_with (first
        | (go_at_call 41; refine (l01Pair_is H0.out _ _ _ _ Hl.out hn HT.out Hw.out).mono ?_; rintro e w1 ⟨rfl, rfl⟩)
        | (go_at_call 42; refine (l01Part_any _ _).mono ?_; rintro e w1 ⟨rfl, rfl⟩))
      go_ret2
      exact tlc_of_row (ps := []) (own_empty _ _ _ _ (Nat.le_refl _)) ((Below.refl _ _).alloc (Nat.le_refl _) _)
  all_goals
    have e1 : withK ps j l = pairCode ps j := by unfold withK; rw [h0]; rfl
    have e2 : withT ps j l = [] := by unfold withT; rw [e1, h0]; rfl
    rw [e1, e2, h0]
    clear e1 e2
    have H0 := Lib.hid h0; clear h0
    go_enter Try.func15, Try.ntmps15
    go_wp2_with (first
        | (go_at_call 41; refine (l01Pair_is H0.out _ _ _ _ Hl.out hn HT.out Hw.out).mono ?_; rintro e w1 ⟨rfl, rfl⟩)
        | (go_at_call 42; refine (l01Part_any _ _).mono ?_; rintro e w1 ⟨rfl, rfl⟩))
    go_ret2
    exact tlc_of_row (ps := []) (own_empty _ _ _ _ (Nat.le_refl _)) ((Below.refl _ _).alloc (Nat.le_refl _) _)
theorem pairError_is {ps : List Pr} {j k : Int} (h : pairCode ps j = k) (A : Option Addr) (n c : Nat) (w : World) (hl : ps.length = n) (hn : n ≤ 1048576) (hT : Tr w w.heap.size A ps) (hw : ∀ p ∈ ps, p.wf) :
    Calls Try.prog 43 #[.slice A n c, .int .i64 j] w fun e w' => e = .returned (.int .i64 k) ∧ Below w.heap.size w w' := by
  subst h
  exact pairError_any A n c ps j w hl hn hT hw
set_option maxRecDepth 100000 in
set_option maxHeartbeats 2000000 in
theorem implWith_any (A : Option Addr) (n c : Nat) (ps : List Pr) (j : Int) (l : Nat) (w : World) (hl : ps.length = n) (hn : n ≤ 1048576) (hnc : n ≤ c) (hcm : c ≤ maxLen) (hT : Tr w w.heap.size A ps) (hw : ∀ p ∈ ps, p.wf) :
    Calls Try.prog 16 #[.slice A n c, .int .i64 j, .float .f32 l] w (TLC (withT ps j l) (withK ps j l) w) := by
  obtain ⟨i0, hi, hz0, hz1, hz2⟩ := info_parts infoPair
  have Hl := Lib.hid hl; clear hl
  have HT := Lib.hid hT; clear hT
  have Hw := Lib.hid hw; clear hw
  rcases code_cases ps j with h0 | h0 | h0
  · rcases Bool.eq_false_or_eq_true (partB l) with h1 | h1
    · obtain ⟨hok, k, rfl, hk, hp⟩ := pair_there h0
      have e1 : withK ps (k : Int) l = 0 := by unfold withK; rw [h0, h1]; rfl
      have e2 : withT ps (k : Int) l = ps.set k (withP (pairAt ps (k : Int)) l) := by unfold withT; rw [if_pos e1]; rfl
      rw [e1, e2]
      clear e1 e2
      have H0 := Lib.hid h0; clear h0
      have Hp := Lib.hid hp; clear hp
      have zs := size_bounds hok
      clear hok
      rw [Hl.out] at zs hk
      have zk : (k : Int) < (n : Int) := by omega
      have z0 : (0 : Int) ≤ (k : Int) := by omega
      obtain ⟨b, off, rfl, hbs, hc⟩ := HT.out (by rw [Hl.out]; omega)
      have Hc := Lib.hid hc; clear hc
      have Hst : Hid (∀ wx, Calls Try.prog 45 #[.slice (some ⟨b, off, none⟩) n c, .int .i64 k] wx fun e w' => e = .returned (.slice (some ⟨b, off, none⟩) k k) ∧ wx = w') := fun wx => start_any _ n c k wx (Nat.le_of_lt hk) hnc hcm
      have hcm2 : c ≤ 9223372036854775807 := by unfold maxLen at hcm; omega
      clear hcm
      have hlt : (ps.take k).length = k := by rw [List.length_take, Hl.out]; omega
      have Hlt := Lib.hid hlt; clear hlt
      have hld : (ps.drop (k + 1)).length = n - (k + 1) := by rw [List.length_drop, Hl.out]
      have Hld := Lib.hid hld; clear hld
      have N2 : Hid (∀ i p, (ps.drop (k + 1))[i]? = some p → w.rangeAt b (off + (k + 1) * 3 + i * 3) p.cells) := fun i p hp => by
        rw [List.getElem?_drop] at hp
        have e : off + (k + 1) * 3 + i * 3 = off + (k + 1 + i) * 3 := by omega
        rw [e]
        exact Hc.out _ p hp
      go_enter Try.func16, Try.ntmps16
      go_upto_region 6 with (first
        | (go_at_call 43; refine (pairError_is H0.out _ _ _ _ Hl.out hn HT.out Hw.out).mono ?_; rintro e w1 ⟨rfl, b1⟩; have B1 := Lib.hid b1; clear b1; obtain ⟨c0, c1, c2⟩ := cells3 (rangeAt_of_block (Hc.out k _ Hp.out) (B1.out.block b hbs)); have hbz : b < w1.heap.size := Nat.lt_of_lt_of_le hbs B1.out.size)
        | (go_at_call 44; refine (isPart_any _ _).mono ?_; rintro e w2 ⟨rfl, rfl⟩))
      go_cut [9] (fun s9 wx => s9 = .pointer (some ⟨w1.heap.size, 0, none⟩) ∧ wx = ((w1.alloc (Obj.cells #[Value.int .i16 (pairAt ps (k : Int)).a, Value.int .i16 (pairAt ps (k : Int)).b, Value.float .f32 l] 62)).drew))
      case first =>
        go_region_law (fail)
        all_goals (go_wp2_with fail; go_meet; exact ⟨rfl, rfl⟩)
      case rest =>
        obtain ⟨rfl, hwc⟩ := hcut
        clear c0 c1 c2 hbz
        have hsz : wc.heap.size = w1.heap.size + 1 := by rw [hwc]; simp
        have BW : Hid (Below w.heap.size w wc) := by rw [hwc]; exact (B1.out.alloc B1.out.size _).drew
        have hblk : wc.heap[w1.heap.size]? = some (.cells #[Value.int .i16 (pairAt ps (k : Int)).a, Value.int .i16 (pairAt ps (k : Int)).b, Value.float .f32 l] 62 (0, 0)) := by rw [hwc]; exact heap_alloc_new w1 _
        have q0 : wc.cell? ⟨w1.heap.size, 0, none⟩ = some (.int .i16 (pairAt ps (k : Int)).a) := cell_of_row _ _ 0 _ _ _ hblk
        have q1 : wc.cell? ⟨w1.heap.size, 1, none⟩ = some (.int .i16 (pairAt ps (k : Int)).b) := cell_of_row _ _ 1 _ _ _ hblk
        have q2 : wc.cell? ⟨w1.heap.size, 2, none⟩ = some (.float .f32 l) := cell_of_row _ _ 2 _ _ _ hblk
        have hq : w1.heap.size < wc.heap.size := by omega
        have hbW : b < wc.heap.size := Nat.lt_of_lt_of_le hbs BW.out.size
        have Hsz := Lib.hid hsz
        clear hblk hsz hwc
        have N1 : Hid (∀ i p, (ps.take k)[i]? = some p → wc.rangeAt b (off + i * 3) p.cells) := fun i p hp => by
          rw [List.getElem?_take] at hp
          split at hp
          · exact rangeAt_of_block (Hc.out i p hp) (BW.out.block b hbs)
          · cases hp
        go_upto_region 7 with fail
        go_cut [10] (fun s10 wx => wx.ownsRow w.heap.size 62 3 s10 (k + 1) ((ps.take k ++ [withP (pairAt ps (k : Int)) l]).flatMap Pr.cells) ∧ Below w.heap.size w wx)
        case first =>
          go_region_law (first
            | (refine step_append_grows rfl (.tmp 34) (.tmp 36) 28 rfl 62 i0 _ 3 8 Try.underlying28 hi hz0 hz1 hz2 rfl (by omega) (some ⟨b, off, none⟩) k k ((ps.take k).flatMap Pr.cells) rfl (fun h => by cases h) (by rw [flat_len, Hlt.out]) (fun x hx => by cases hx; exact Tr.news fun i p hp => rangeAt_of_block (N1.out i p hp) (by exact Below.heap_alloc _ _ _ (by exact hbW))) _ 1 _ (withP (pairAt ps (k : Int)) l).cells rfl rfl (World.news_of_block (cs := #[_, _, _]) (heap_alloc_new _ _)) (by intro u hu; simp [Pr.cells] at hu; rcases hu with rfl | rfl | rfl <;> rfl) (by omega) (by unfold maxLen; omega) (by omega) ?_; intro v8 w8 hown8 hgrow8)
            | (go_simp; go_at_call 45; refine (Hst.out _).mono ?_; rintro e w5 ⟨rfl, rfl⟩; dsimp only))
          all_goals
            have hB : Below w.heap.size w w8 := by
              refine Below.grown (row := none) ?_ hgrow8 (by have := BW.out.size; simp; omega) (fun k h => by cases h)
              exact Below.alloc (by first | exact BW.out.drew | exact BW.out.drew.drew) (by have := BW.out.size; simp; omega) _
            have hO : w8.ownsRow w.heap.size 62 3 v8 (k + 1) ((ps.take k ++ [withP (pairAt ps (k : Int)) l]).flatMap Pr.cells) := by
              rw [List.flatMap_append]
              refine own_more (base := wc.heap.size + 1) ?_ (by have := BW.out.size; omega)
              simpa using hown8
            go_wp2_with fail
            go_meet
            exact ⟨hO, hB⟩
        case rest =>
          obtain ⟨hO, hB⟩ := hcut
          obtain ⟨g, cp, rfl, hg⟩ := row_form hO (by omega)
          have HO := Lib.hid hO; have HB := Lib.hid hB
          clear hO hB
          have hsp : ps.set k (withP (pairAt ps (k : Int)) l) = (ps.take k ++ [withP (pairAt ps (k : Int)) l]) ++ ps.drop (k + 1) := set_split (by rw [Hl.out]; exact hk)
          have Hsp := Lib.hid hsp; clear hsp
          by_cases hcap : c = k + 1
          · subst hcap
            have hz : ps.drop (k + 1) = [] := List.eq_nil_of_length_eq_zero (by rw [Hld.out]; omega)
            have Hz := Lib.hid hz; clear hz
            go_wp2_with (at_builtin; refine wpList_append_own _ rfl (.tmp 38) (.tmp 42) 28 rfl w.heap.size 62 i0 _ 3 8 Try.underlying28 hi hz0 hz1 hz2 rfl (by omega) _ (k + 1) _ rfl HO.out _ 0 _ [] rfl rfl (fun j u hu => by simp at hu) (fun u hu => by cases hu) (by unfold maxLen; omega) (by omega) HB.out.size ?_; intro v9 w9 hown9 hgrow9 hif9)
            go_ret2
            rw [Hsp.out]
            rw [List.append_nil] at hown9
            rw [Hz.out, List.append_nil]
            exact tlc_of_row hown9 (HB.out.grown hgrow9 HB.out.size (fun k h => by cases h; exact hg))
          · have hcap2 : k + 1 < c := by omega
            have N3 : Hid (∀ j u, ((ps.drop (k + 1)).flatMap Pr.cells)[j]? = some u → wc.cell? ((⟨b, off + (k + 1) * 3, none⟩ : Addr).add j) = some u) := Tr.news fun i p hp => rangeAt_of_block (N2.out i p hp) (HB.out.block b hbs)
            go_wp2_with (at_builtin; refine wpList_append_own _ rfl (.tmp 38) (.tmp 42) 28 rfl w.heap.size 62 i0 _ 3 8 Try.underlying28 hi hz0 hz1 hz2 rfl (by omega) _ (k + 1) _ rfl HO.out _ (n - (k + 1)) _ ((ps.drop (k + 1)).flatMap Pr.cells) rfl (by rw [flat_len, Hld.out]) N3.out (flat_one _) (by unfold maxLen; omega) (by omega) HB.out.size ?_; intro v9 w9 hown9 hgrow9 hif9)
            go_ret2
            rw [Hsp.out]
            rw [← List.flatMap_append] at hown9
            exact tlc_of_row hown9 (HB.out.grown hgrow9 HB.out.size (fun k h => by cases h; exact hg))
    · have e1 : withK ps j l = 2 := by unfold withK; rw [h0, h1]; rfl
      have e2 : withT ps j l = [] := by unfold withT; rw [e1]; rfl
      rw [e1, e2]
      clear e1 e2
      have H0 := Lib.hid h0; clear h0
      go_enter Try.func16, Try.ntmps16
      go_wp2_with (first
        | (go_at_call 43; refine (pairError_is H0.out _ _ _ _ Hl.out hn HT.out Hw.out).mono ?_; rintro e w1 ⟨rfl, b1⟩; have B1 := Lib.hid b1; clear b1)
        | (go_at_call 44; refine (isPart_any _ _).mono ?_; rintro e w2 ⟨rfl, rfl⟩))
      go_ret2
      exact tlc_of_row (ps := []) (World.ownsRow_nil _ _ _ _) B1.out
  all_goals
    have e1 : withK ps j l = pairCode ps j := by unfold withK; rw [h0]; rfl
    have e2 : withT ps j l = [] := by unfold withT; rw [e1, h0]; rfl
    rw [e1, e2, h0]
    clear e1 e2
    have H0 := Lib.hid h0; clear h0
    go_enter Try.func16, Try.ntmps16
    go_wp2_with (go_at_call 43; refine (pairError_is H0.out _ _ _ _ Hl.out hn HT.out Hw.out).mono ?_; rintro e w1 ⟨rfl, b1⟩; have B1 := Lib.hid b1; clear b1)
    go_ret2
    exact tlc_of_row (ps := []) (World.ownsRow_nil _ _ _ _) B1.out
end Go.Proofs.Ytolbacgfcobmdaa
