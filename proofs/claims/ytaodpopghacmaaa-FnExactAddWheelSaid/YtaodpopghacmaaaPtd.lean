/-
  The best pair: the model's search.
-/
import Derived.Test.YtaodpopghacmaaaPtb
import Derived.Deep.RegionHeld3
import Derived.Deep.RegionLaw
namespace Go.Proofs.Ytaodpopghacmaaa
open Go.RowKit Go.ChangeShapes Go.WideShapes Go.Deep
attribute [local go_sem ↓] Go.wp_at_zero Go.wp_at_succ
set_option linter.unusedVariables false
set_option linter.unusedSimpArgs false
set_option maxRecDepth 100000
theorem cell_onP {w W w' : World} {g o : Nat} {v : Value} (h : w.cell? ⟨g, o, none⟩ = some v) (hW : W.heap = w.heap) (b : Below W.heap.size W w') : w'.cell? ⟨g, o, none⟩ = some v := by
  rw [World.cell?_of_block (b.block g (by rw [hW]; exact World.block_lt_of_cell? w ⟨g, o, none⟩ h))]
  rw [← h]
  exact World.cell?_of_block (by rw [hW])
theorem two_step {w W w' : World} {b o o' : Nat} {x y : Value} (h : W.cell? ⟨b, o, none⟩ = some x ∧ W.cell? ⟨b, o', none⟩ = some y ∧ Hid (Below w.heap.size w W)) (k : Below W.heap.size W w') : w'.cell? ⟨b, o, none⟩ = some x ∧ w'.cell? ⟨b, o', none⟩ = some y ∧ Hid (Below w.heap.size w w') :=
  ⟨cell_onP h.1 rfl k, cell_onP h.2.1 rfl k, Lib.hid (b_then h.2.2.out k)⟩
def offM (zs : List Int) (t : Nat) (p : Nat × Nat) : Nat := offC (quoT (zs.getD p.1 0) (zs.getD p.2 0)) t
theorem offM_num {zs : List Int} {t : Nat} (hz : TeZ zs) (ht : tgB t = true) {i j : Nat} (hi : i < zs.length) (hj : j < zs.length) : OffN (offM zs t (i, j)) ∧ cn (offM zs t (i, j)) = offM zs t (i, j) := by
  obtain ⟨a1, a2⟩ := hz.2 _ _ (List.getElem?_eq_getElem hi)
  obtain ⟨b1, b2⟩ := hz.2 _ _ (List.getElem?_eq_getElem hj)
  unfold offM
  dsimp only
  rw [getD_of (List.getElem?_eq_getElem hi), getD_of (List.getElem?_eq_getElem hj)]
  exact off_facts (quoT_rg a1 a2 b1 b2) ht
set_option maxHeartbeats 8000000 in
theorem l05Best_any (A : Option Addr) (n c : Nat) (zs : List Int) (t : Nat) (w : World) (hl : zs.length = n) (hz : TeZ zs) (ht : tgB t = true) (hT : Ii w w.heap.size A zs) :
    Calls Try.prog 58 #[.slice A n c, .float .f32 t] w (RV (.tuple #[.int .i64 ((bestF (offM zs t) (prU n n 0) ((0, 1), offM zs t (0, 1))).1.1 : Int), .int .i64 ((bestF (offM zs t) (prU n n 0) ((0, 1), offM zs t (0, 1))).1.2 : Int), .float .f32 (bestF (offM zs t) (prU n n 0) ((0, 1), offM zs t (0, 1))).2]) w) := by
  have hlen := hz.1
  rw [hl] at hlen
  obtain ⟨hn2, hn24⟩ := hlen
  obtain ⟨b, o, rfl, hb, hc⟩ := hT (by omega)
  have Hc := Lib.hid (fun i (hi : i < n) => (show w.cell? ⟨b, o + i, none⟩ = some (.int .i16 (zs.getD i 0)) ∧ 6 ≤ zs.getD i 0 ∧ zs.getD i 0 ≤ 200 from by
    have h1 : zs[i]? = some zs[i] := List.getElem?_eq_getElem (by rw [hl]; exact hi)
    rw [getD_of h1]
    exact ⟨hc i _ h1, hz.2 _ _ h1⟩))
  have Hoff := Lib.hid (fun i j (hi : i < n) (hj : j < n) => offM_num hz ht (i := i) (j := j) (by rw [hl]; exact hi) (by rw [hl]; exact hj))
  have HOD : Hid (∀ i j, offC (quoT (zs.getD i 0) (zs.getD j 0)) t = offM zs t (i, j)) := Lib.hid (fun i j => rfl)
  obtain ⟨c0, x1, x2⟩ := Hc.out 0 (by omega)
  obtain ⟨c1, y1, y2⟩ := Hc.out 1 (by omega)
  have hd0 := HOD.out 0 1
  have hn0 := Hoff.out 0 1 (by omega) (by omega)
  rw [Nat.add_zero] at c0
  clear hT hl hz ht hc
  generalize offM zs t = off at *
  generalize hz0 : zs.getD 0 0 = xi at *
  generalize hz1 : zs.getD 1 0 = xj at *
  have HD0 := Lib.hid hd0; have HN0 := Lib.hid hn0
  clear hd0 hn0 hz0 hz1
  have ni0 : (0 : Int) < (n : Int) := by omega
  have nn0 : 0 < n := by omega
  have ni1 : (1 : Int) < (n : Int) := by omega
  have C0 : w.cell? ⟨b, o, none⟩ = some (.int .i16 xi) ∧ w.cell? ⟨b, o + 1, none⟩ = some (.int .i16 xj) ∧ Hid (Below w.heap.size w w) := ⟨c0, c1, Lib.hid (Below.refl _ _)⟩
  go_enter Try.func58, Try.ntmps58
  go_upto_region 3 with fail
  have C1 := two_step C0 (b_drew (Below.refl _ _))
  go_region_held3 (fun w' => w'.cell? ⟨b, o, none⟩ = some (.int .i16 xi) ∧ w'.cell? ⟨b, o + 1, none⟩ = some (.int .i16 xj) ∧ Hid (Below w.heap.size w w'))
    (first
      | exact C1
      | exact C0
      | assumption)
    (first
      | (go_at_call 49; refine (l01Quotient_any x1 x2 y1 y2 _).mono ?_; rintro e w' ⟨rfl, rfl⟩)
      | (go_at_call 48; refine (specOff_any _ _ _).mono ?_; rintro e w' ⟨r, rfl, hr, k⟩; have HR := Lib.hid hr; have C := two_step (by assumption) k; clear k hr))
  have HF := Lib.hid (show Below w.heap.size w _ from C.2.2.out)
  clear C C0 C1 c0 c1
  have hr : r = off (0, 1) := cn_eq_fix (HR.out.trans HD0.out) HN0.out.1.1
  subst hr
  clear HR HD0 HN0 ni0 nn0 ni1 x1 x2 y1 y2
  obtain ⟨s0, hs0⟩ : ∃ s0 : (Nat × Nat) × Nat, ((0, 1), off (0, 1)) = s0 := ⟨_, rfl⟩
  have e1 : s0.1.1 = 0 := by rw [← hs0]
  have e2 : s0.1.2 = 1 := by rw [← hs0]
  have e3 : s0.2 = off (0, 1) := by rw [← hs0]
  have E1 := Lib.hid e1; have E2 := Lib.hid e2; have E3 := Lib.hid e3
  have HS0 := Lib.hid hs0
  clear hs0 e1 e2 e3
  go_wp2_with fail
  go_loopw [7, 8, 9, 10, 11, 12] (fun v7 v8 v9 v10 _ _ wr => ∃ (i : Nat) (st : (Nat × Nat) × Nat), i ≤ n ∧ v10 = .int .i64 i ∧ v7 = .int .i64 st.1.1 ∧ v8 = .int .i64 st.1.2 ∧ v9 = .float .f32 st.2 ∧ Hid (bestF off (prU n i 0) s0 = st) ∧ Hid (Below w.heap.size w wr)) (fun _ _ _ v10 _ _ _ => n - (intOf v10).toNat)
  case atStart => exact ⟨0, s0, Nat.zero_le _, rfl, by rw [E1.out]; rfl, by rw [E2.out]; rfl, by rw [E3.out], rfl, HF⟩
  case round =>
    obtain ⟨i, st, hi, rfl, rfl, rfl, rfl, hS, hB⟩ := hrel
    by_cases hlt : i < n
    · have li : (i : Int) < (n : Int) := by omega
      go_wp2_with fail
      go_loopw [7, 8, 9, 11, 12] (fun v7 v8 v9 v11 _ wr2 => ∃ (j : Nat) (st2 : (Nat × Nat) × Nat), j ≤ n ∧ v11 = .int .i64 j ∧ v7 = .int .i64 st2.1.1 ∧ v8 = .int .i64 st2.1.2 ∧ v9 = .float .f32 st2.2 ∧ Hid (bestF off (prU n i j) s0 = st2) ∧ Hid (Below w.heap.size w wr2)) (fun _ _ _ v11 _ _ => n - (intOf v11).toNat)
      case atStart => exact ⟨0, st, Nat.zero_le _, rfl, rfl, rfl, rfl, hS, hB⟩
      case round =>
        obtain ⟨j, st2, hj, rfl, rfl, rfl, rfl, hS2, hB2⟩ := hrel
        by_cases hjl : j < n
        · have lj : (j : Int) < (n : Int) := by omega
          by_cases hij : i = j
          · subst hij
            have hij2 : ((i : Int) == (i : Int)) = true := by simp
            have HS3 : Hid (bestF off (prU n i (i + 1)) s0 = st2) := Lib.hid (by rw [prU_eq]; exact hS2.out)
            go_wp2
            exact ⟨⟨i + 1, st2, by omega, by go_num, rfl, rfl, rfl, HS3, hB2⟩, by simp [intOf]; omega⟩
          · have hij2 : ((i : Int) == (j : Int)) = false := by rw [beq_eq_false_iff_ne]; omega
            obtain ⟨c0, x1, x2⟩ := Hc.out i hlt
            obtain ⟨c1, y1, y2⟩ := Hc.out j hjl
            have HD := Lib.hid (HOD.out i j)
            have HN := Lib.hid (Hoff.out i j hlt hjl)
            generalize zs.getD i 0 = xi at *
            generalize zs.getD j 0 = xj at *
            have C0 : wr.cell? ⟨b, o + i, none⟩ = some (.int .i16 xi) ∧ wr.cell? ⟨b, o + j, none⟩ = some (.int .i16 xj) ∧ Hid (Below w.heap.size w wr) := ⟨cell_onP c0 rfl hB2.out, cell_onP c1 rfl hB2.out, hB2⟩
            have C1 := two_step C0 (b_drew (Below.refl _ _))
            clear c0 c1
            have i0 : (0 : Int) ≤ (i : Int) := by omega
            have j0 : (0 : Int) ≤ (j : Int) := by omega
            go_upto_region 11 with fail
            go_region_held3 (fun w' => w'.cell? ⟨b, o + i, none⟩ = some (.int .i16 xi) ∧ w'.cell? ⟨b, o + j, none⟩ = some (.int .i16 xj) ∧ Hid (Below w.heap.size w w'))
              (first
                | exact C1
                | exact C0
                | assumption)
              (first
                | (go_at_call 49; refine (l01Quotient_any x1 x2 y1 y2 _).mono ?_; rintro e w' ⟨rfl, rfl⟩)
                | (go_at_call 48; refine (specOff_any _ _ _).mono ?_; rintro e w' ⟨r, rfl, hr, k⟩; have HR := Lib.hid hr; have C := two_step (by assumption) k; clear k hr))
            have HB3 := Lib.hid (show Below w.heap.size w _ from C.2.2.out)
            have hr : r = off (i, j) := cn_eq_fix (HR.out.trans HD.out) HN.out.1.1
            clear C C0 C1 HR HD HN i0 j0
            obtain ⟨⟨p, q⟩, z0⟩ := st2
            dsimp only
            have Hst := Lib.hid (fun (tt : Bool) (h : oLt r z0 = tt) => (show bestF off (prU n i (j + 1)) s0 = if tt then ((i, j), r) else ((p, q), z0) from by
              rw [prU_ne hij, bestF_snoc, hS2.out]
              unfold bstep
              rw [← hr, h]))
            clear hr hS2
            cases hlt2 : oLt r z0
            · have t1 := (tf_lt hlt2).2 rfl
              have HS3 := Lib.hid (Hst.out _ hlt2)
              clear hlt2 Hst
              go_wp2
              exact ⟨⟨j + 1, ((p, q), z0), by omega, by go_num, rfl, rfl, rfl, HS3, HB3⟩, by simp [intOf]; omega⟩
            · have t1 := (tf_lt hlt2).1 rfl
              have HS3 := Lib.hid (Hst.out _ hlt2)
              clear hlt2 Hst
              go_wp2
              exact ⟨⟨j + 1, ((i, j), r), by omega, by go_num, rfl, rfl, rfl, HS3, HB3⟩, by simp [intOf]; omega⟩
        · obtain rfl : j = n := by omega
          have HS3 : Hid (bestF off (prU j (i + 1) 0) s0 = st2) := Lib.hid (by rw [prU_next]; exact hS2.out)
          have lj : ¬ (j : Int) < (j : Int) := by omega
          go_wp2
          exact ⟨⟨i + 1, st2, by omega, by go_num, rfl, rfl, rfl, HS3, hB2⟩, by simp [intOf]; omega⟩
    · obtain rfl : i = n := by omega
      have li : ¬ (i : Int) < (i : Int) := by omega
      have hS2 := hS.out
      subst hS2
      go_wp2
      exact bodyPost_ret (v := .tuple #[_, _, _]) (by simp [results, Try.results58, go_sem]; exact ⟨rfl, rfl, rfl⟩) rfl ⟨by rw [HS0.out], hB.out⟩
end Go.Proofs.Ytaodpopghacmaaa
