/-
  The pairs that are near to a target: the model's.
-/
import Derived.Test.YtaodpopghacmaaaIpm
import Derived.Test.YtaodpopghacmaaaPwn
import Derived.Test.YtaodpopghacmaaaPrd
import Derived.Test.YtaodpopghacmaaaPre
import Derived.Deep.RegionHeld3
namespace Go.Proofs.Ytaodpopghacmaaa
open Go.RowKit Go.ChangeShapes Go.WideShapes Go.Deep
attribute [local go_sem ↓] Go.wp_at_zero Go.wp_at_succ
set_option linter.unusedVariables false
set_option linter.unusedSimpArgs false
set_option maxRecDepth 100000
theorem rowU_len (a : Nat) : ∀ b, (rowU a b).length ≤ b
  | 0 => Nat.le_refl _
  | b + 1 => by
    have := rowU_len a b
    by_cases h : a = b
    · subst h; rw [rowU_eq]; omega
    · rw [rowU_ne h, List.length_append]; simp; omega
theorem prU_len' (n : Nat) : ∀ a, (prU n a 0).length ≤ a * n
  | 0 => by simp [prU, rowU]
  | a + 1 => by
    have h1 := prU_len' n a
    have h2 := rowU_len a n
    rw [prU_next]
    have e : prU n a n = prU n a 0 ++ rowU a n := by unfold prU; rw [rowU_zero, List.append_nil]
    rw [e, List.length_append, Nat.add_mul, Nat.one_mul]
    omega
theorem prU_len (n : Nat) : (prU n n 0).length ≤ n * n := prU_len' n n
theorem own_emptyI (W : World) (base : Nat) (hb : base ≤ W.heap.size) : (W.alloc (.cells #[] 72)).ownsRow base 72 2 (.slice (some ⟨W.heap.size, 0, none⟩) 0 0) 0 (cellsI []) := own_empty W base 72 2 hb
set_option maxHeartbeats 1000000 in
theorem specWithin_any (A : Option Addr) (n c : Nat) (zs : List Int) (t x : Nat) (K : Int) (w : World) (hl : zs.length = n) (hn : n ≤ 1048576) (hw : ∀ z ∈ zs, I16 z) (hK : codeX (okZ zs) (tgB t && ptB x) = K) (hT : Ii w w.heap.size A zs) :
    Calls Try.prog 11 #[.slice A n c, .float .f32 t, .float .f32 x] w (RIp (if K = 0 then nearL (offM zs t) x (prU n n 0) else []) K w) := by
  have hB0 := l05Asked_any A n c zs t x w hl hn hw hT
  unfold askK at hB0
  rw [hK] at hB0
  have hB := Lib.hid hB0
  clear hB0
  obtain ⟨i0, hi0, hz0, hz1, hz2⟩ := info_parts infoIp
  by_cases h : K = 0
  · subst h
    rw [if_pos rfl]
    obtain ⟨hz, hr⟩ := codeX_zero hK
    obtain ⟨ht, hx⟩ := (Bool.and_eq_true _ _).mp hr
    have hlen := (okZ_at hz).1
    rw [hl] at hlen
    obtain ⟨hn2, hn24⟩ := hlen
    obtain ⟨b, o, rfl, hb, hc⟩ := hT (by omega)
    have Hc := Lib.hid (fun i (hi : i < n) => (show w.cell? ⟨b, o + i, none⟩ = some (.int .i16 (zs.getD i 0)) ∧ 6 ≤ zs.getD i 0 ∧ zs.getD i 0 ≤ 200 from by
      have h1 : zs[i]? = some zs[i] := List.getElem?_eq_getElem (by rw [hl]; exact hi)
      rw [getD_of h1]
      exact ⟨hc i _ h1, okZ_teeth hz h1⟩))
    have Hoff := Lib.hid (fun i j (hi : i < n) (hj : j < n) => offM_num hz ht (i := i) (j := j) (by rw [hl]; exact hi) (by rw [hl]; exact hj))
    have HOD : Hid (∀ i j, offC (quoT (zs.getD i 0) (zs.getD j 0)) t = offM zs t (i, j)) := Lib.hid (fun i j => rfl)
    clear hT hl hz ht hc hK hr hx hw
    generalize offM zs t = off at *
    go_enter Try.func11, Try.ntmps11
    go_wp2_with fail
    refine hB.out.mono ?_
    rintro e w1 ⟨rfl, b1⟩
    have B1 := Lib.hid b1
    have hw1 := b1.size
    clear b1 hB
    go_wp2
    go_loopw [9, 10, 11] (fun v9 v10 _ wr => ∃ (i : Nat), i ≤ n ∧ v10 = .int .i64 i ∧ Hid (wr.ownsRow w.heap.size 72 2 v9 (nearL off x (prU n i 0)).length (cellsI (nearL off x (prU n i 0)))) ∧ Hid (Below w.heap.size w wr)) (fun _ v10 _ _ => n - (intOf v10).toNat)
    case atStart => exact ⟨0, Nat.zero_le _, rfl, own_emptyI w1 _ hw1, b_alloc B1.out _⟩
    case round =>
      obtain ⟨i, hi, rfl, hO, hB⟩ := hrel
      by_cases hlt : i < n
      · have li : (i : Int) < (n : Int) := by omega
        go_wp2_with fail
        go_loopw [9, 11] (fun v9 v11 wr2 => ∃ (j : Nat), j ≤ n ∧ v11 = .int .i64 j ∧ Hid (wr2.ownsRow w.heap.size 72 2 v9 (nearL off x (prU n i j)).length (cellsI (nearL off x (prU n i j)))) ∧ Hid (Below w.heap.size w wr2)) (fun _ v11 _ => n - (intOf v11).toNat)
        case atStart => exact ⟨0, Nat.zero_le _, rfl, hO, hB⟩
        case round =>
          obtain ⟨j, hj, rfl, hO2, hB2⟩ := hrel
          by_cases hjl : j < n
          · have lj : (j : Int) < (n : Int) := by omega
            by_cases hij : i = j
            · subst hij
              have hij2 : ((i : Int) != (i : Int)) = false := by simp
              have hO3 := Lib.hid (by have := hO2.out; rw [← prU_eq] at this; exact this)
              go_upto_region 11 with fail
              go_quiet (fail)
              go_wp2
              exact ⟨⟨i + 1, by omega, by go_num, own_below hO3.out (b_drewN (Below.refl _ _) _), b_drewN hB2.out _⟩, by simp [intOf]; omega⟩
            · have hij2 : ((i : Int) != (j : Int)) = true := by
                have : ¬ ((i : Int) = (j : Int)) := by omega
                simpa using this
              obtain ⟨c0, x1, x2⟩ := Hc.out i hlt
              obtain ⟨c1, y1, y2⟩ := Hc.out j hjl
              have HD := Lib.hid (HOD.out i j)
              have HN := Lib.hid (Hoff.out i j hlt hjl)
              generalize zs.getD i 0 = xi at *
              generalize zs.getD j 0 = xj at *
              have C0 : wr.cell? ⟨b, o + i, none⟩ = some (.int .i16 xi) ∧ wr.cell? ⟨b, o + j, none⟩ = some (.int .i16 xj) ∧ Hid (Below wr.heap.size wr wr) := ⟨cell_onP c0 rfl hB2.out, cell_onP c1 rfl hB2.out, Lib.hid (Below.refl _ _)⟩
              have C1 := two_step C0 (b_drew (Below.refl _ _))
              clear c0 c1
              have i0' : (0 : Int) ≤ (i : Int) := by omega
              have j0' : (0 : Int) ≤ (j : Int) := by omega
              go_upto_region 11 with fail
              go_region_held3 (fun w' => w'.cell? ⟨b, o + i, none⟩ = some (.int .i16 xi) ∧ w'.cell? ⟨b, o + j, none⟩ = some (.int .i16 xj) ∧ Hid (Below wr.heap.size wr w'))
                (first
                  | exact C1
                  | exact C0
                  | assumption)
                (first
                  | (go_at_call 49; refine (l01Quotient_any x1 x2 y1 y2 _).mono ?_; rintro e w' ⟨rfl, rfl⟩)
                  | (go_at_call 48; refine (specOff_any _ _ _).mono ?_; rintro e w' ⟨r, rfl, hr, k⟩; have HR := Lib.hid hr; have C := two_step (by assumption) k; clear k hr))
              have hr : r = off (i, j) := cn_eq_fix (HR.out.trans HD.out) HN.out.1.1
              have B3 : Hid (Below wr.heap.size wr w') := C.2.2
              clear C C0 C1 HR HD HN i0' j0' x1 x2 y1 y2
              subst hr
              obtain ⟨tb, htb⟩ : ∃ tb, oLe (off (i, j)) x = tb := ⟨_, rfl⟩
              have Hs : Hid (nearL off x (prU n i (j + 1)) = if tb = true then nearL off x (prU n i j) ++ [ipOf (i, j)] else nearL off x (prU n i j)) := Lib.hid (by
                rw [prU_ne hij]
                cases tb
                · exact nearL_no htb
                · exact nearL_yes htb)
              have e0 : (FloatKind.f32.format.order (off (i, j)) x == some .lt || FloatKind.f32.format.order (off (i, j)) x == some .eq) = tb := htb
              simp only [e0]
              clear e0 htb
              have O3 : Hid (w'.ownsRow w.heap.size 72 2 _ (nearL off x (prU n i j)).length (cellsI (nearL off x (prU n i j)))) := own_below hO2.out B3.out
              have BB : Hid (Below w.heap.size w w') := b_then hB2.out B3.out
              have hpl : Hid ((nearL off x (prU n i j)).length ≤ 576) := Lib.hid (by
                have h1 := nearL_len off x (prU n i j)
                have h2 : (prU n i j).length ≤ 576 := by
                  have h3 := (prU_pre hlt (Nat.le_of_lt hjl)).length_le
                  have h4 := prU_len n
                  have h5 : n * n ≤ 24 * 24 := Nat.mul_le_mul hn24 hn24
                  omega
                omega)
              generalize nearL off x (prU n i j) = ps at *
              have hws := BB.out.size
              cases tb
              · go_wp2
                exact ⟨⟨j + 1, by omega, by go_num, by rw [Hs.out]; exact O3, BB⟩, by simp [intOf]; omega⟩
              · have hpl2 := hpl.out
                go_wp2_with (at_builtin; refine wpList_append_own _ rfl _ _ 24 rfl w.heap.size 72 i0 _ 2 16 Try.underlying24 hi0 hz0 hz1 hz2 rfl (by decide) _ ps.length _ rfl (O3.out.alloc _) ⟨w'.heap.size, 0, none⟩ 1 1 (ipOf (i, j)).cells rfl rfl (World.news_of_block (cs := #[_, _]) (heap_alloc_new _ _)) (by intro u hu; simp [Ip.cells] at hu; rcases hu with rfl | rfl <;> rfl) (by unfold maxLen; omega) (by omega) (by simp; omega) ?_; intro v9 w9 hown9 hgrow9 _)
                have Hba := own_base O3.out
                have B9 : Hid (Below w.heap.size w w9) := (b_alloc BB.out _).grown hgrow9 (by simp; omega) (fun k h => (Hba k h).1)
                have H9 := Lib.hid hown9
                clear hown9 hgrow9
                go_wp2
                refine ⟨⟨j + 1, by omega, by go_num, ?_, B9⟩, by simp [intOf]; omega⟩
                show Hid (_)
                rw [Hs.out, if_pos rfl, cellsI_snoc, List.length_append]
                exact H9
          · obtain rfl : j = n := by omega
            have hO3 := Lib.hid (by have := hO2.out; rw [← prU_next] at this; exact this)
            have lj : ¬ (j : Int) < (j : Int) := by omega
            go_wp2
            exact ⟨⟨i + 1, by omega, by go_num, hO3, hB2⟩, by simp [intOf]; omega⟩
      · obtain rfl : i = n := by omega
        have li : ¬ (i : Int) < (i : Int) := by omega
        go_wp2
        go_ret2
        exact ⟨_, rfl, hO.out, hB.out⟩
  · rw [if_neg h]
    clear hT hl hn hw
    have hK2 : K = 1 ∨ K = 2 := by rcases codeX_cases hK with h1 | h1 | h1; exact absurd h1 h; exact .inl h1; exact .inr h1
    clear hK
    rcases hK2 with rfl | rfl
    all_goals
      go_enter Try.func11, Try.ntmps11
      go_wp2_with fail
      refine hB.out.mono ?_
      rintro e w1 ⟨rfl, b1⟩
      have B1 := Lib.hid b1
      have hw1 := b1.size
      clear b1
      go_wp2
      go_ret2
      exact ⟨_, rfl, own_emptyI w1 _ hw1, b_alloc B1.out _⟩
end Go.Proofs.Ytaodpopghacmaaa
