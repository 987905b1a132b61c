/-
  A day of hours: the program's method on a function; the error of a stone with a list.
-/
import Derived.Test.YtjkgiknklkfipaaHk
import Derived.Test.YtjkgiknklkfipaaHg
import Derived.Test.YtjkgiknklkfipaaFlIn2
namespace Go.Proofs.Ytjkgiknklkfipaa
open Go.RowKit Go.ChangeShapes Go.WideShapes Go.Deep
attribute [local go_sem ↓] Go.wp_at_zero Go.wp_at_succ
set_option linter.unusedVariables false
set_option linter.unusedSimpArgs false
set_option maxRecDepth 100000
/-- The stone behind k hours of a day, and the flour of each hour. -/
def dayK (S : Sn) (ts : List Nat) (f : Nat) : Nat → Sn
  | 0 => cnS S
  | k + 1 => hourS (dayK S ts f k) (ts.getD k 0) f
def dayF (S : Sn) (ts : List Nat) (f k : Nat) : Nat := hourF (dayK S ts f k) (ts.getD k 0) f
def dayL (S : Sn) (ts : List Nat) (f : Nat) : List Nat := (List.range ts.length).map (dayF S ts f)
theorem dayK_cn (S : Sn) (ts : List Nat) (f k : Nat) : cnS (dayK S ts f k) = dayK S ts f k := by
  cases k with
  | zero => exact cnS_cnS S
  | succ k => exact cnS_hourS _ _ _
theorem dayK_g {S : Sn} {ts : List Nat} {f : Nat} (hg : ptN (cn S.g)) (hf : rtN (cn f)) (k : Nat) : ptN (dayK S ts f k).g := by
  induction k with
  | zero => exact hg
  | succ k ih =>
    refine hour_g ?_ hf
    have : cn (dayK S ts f k).g = (dayK S ts f k).g := congrArg Sn.g (dayK_cn S ts f k)
    rw [this]
    exact ih
theorem dayL_at {S : Sn} {ts : List Nat} {f k : Nat} (h : k < ts.length) : (dayL S ts f)[k]? = some (dayF S ts f k) := by
  unfold dayL
  rw [List.getElem?_map, List.getElem?_range h]
  rfl
theorem takeD_snoc {cs : List Nat} {fs : List Nat} {k g : Nat} (h : fs.map cn = cs.take k) (hg : cs[k]? = some (cn g)) : (fs ++ [g]).map cn = cs.take (k + 1) := by
  rw [List.take_add_one, hg, List.map_append, h]
  rfl
theorem day_next {S T T' : Sn} {ts : List Nat} {f k t x : Nat} (h : cnS T = dayK S ts f k) (ht : ts[k]? = some t) (hT : SnIs T' (hourS T t f)) (hx : CN x (hourF T t f)) : cnS T' = dayK S ts f (k + 1) ∧ cn x = dayF S ts f k := by
  have e : cnS T = cnS (dayK S ts f k) := by rw [dayK_cn]; exact h
  have g : ts.getD k 0 = t := by rw [List.getD_eq_getElem?_getD, ht]; rfl
  constructor
  · rw [show cnS T' = hourS T t f from hT, hourS_cnS e]
    show _ = hourS (dayK S ts f k) (ts.getD k 0) f
    rw [g]
  · rw [show cn x = hourF T t f from hx, hourF_cnS e]
    unfold dayF
    rw [g]
/-- The call returns a stone and a list of its own of numbers. -/
def RDay (C : Sn) (cs : List Nat) (w : World) (e : Ending) (w' : World) : Prop :=
  ∃ (T : Sn) (v : Value) (n : Nat) (fs : List Nat), e = .returned (.tuple #[.agg #[.float .f32 T.d, .float .f32 T.r, .float .f32 T.b, .float .f32 T.g], v]) ∧ SnIs T C ∧ w'.ownsRow w.heap.size 24 1 v n (fs.map (Value.float .f32)) ∧ fs.length = n ∧ fs.map cn = cs ∧ Below w.heap.size w w'
theorem own_setO {w : World} {base : Nat} {e : TypeId} {size : Nat} {v : Value} {n : Nat} {xs : List Value} (h : w.ownsRow base e size v n xs) {q : Nat} (hq : q < base) (i : Nat) (u : Value) : (w.setCell ⟨q, i, none⟩ u).ownsRow base e size v n xs := by
  rcases h with ⟨h1, h2 | ⟨g, cap, cur, rfl, h3, h4, rest⟩⟩
  · exact ⟨h1, .inl h2⟩
  · exact ⟨h1, .inr ⟨g, cap, cur, rfl, h3, (Below.heap_setCell w ⟨q, i, none⟩ u g (by show g ≠ q; omega)).trans h4, rest⟩⟩
theorem new_at {X : World} {q : Nat} (h : X.heap.size = q) (o : Obj) : (X.alloc o).heap[q]? = some o := by
  subst h
  exact heap_alloc_new X o
theorem Blk.grown {w w' : World} {row : Option Nat} {q : Nat} {cs : Array Value} {t : TypeId} (h : Blk w q cs t) (hg : w.grownBy w' row) (hr : some q ≠ row) : Blk w' q cs t := (hg.block q h.lt hr).trans h
theorem One.grown {w w' : World} {row : Option Nat} {q : Nat} {v : Value} {t : TypeId} (h : One w q v t) (hg : w.grownBy w' row) (hr : some q ≠ row) : One w' q v t := (hg.block q h.lt hr).trans h
theorem OneI {w : World} {q q' : Nat} {x : Value} {t : TypeId} (h : One w q x t) (hne : q ≠ q') (i : Nat) (v : Value) : One (w.setCell ⟨q', i, none⟩ v) q x t := (Below.heap_setCell w ⟨q', i, none⟩ v q hne).trans h
set_option maxRecDepth 100000 in
set_option maxHeartbeats 4000000 in
theorem day_any (S : Sn) (f : Nat) (hg : ptN (cn S.g)) (hf : rtN (cn f)) (A : Option Addr) (n c : Nat) (ts : List Nat) (q2 : Nat) (w : World) (hl : ts.length = n) (hn : n ≤ 1048576) (hT : Fo w w.heap.size A ts) (h2 : One w q2 (.float .f32 f) 24) :
    Calls Try.prog 65 #[.func (.func 96) #[] #[.pointer (some ⟨q2, 0, none⟩)], .agg #[.float .f32 S.d, .float .f32 S.r, .float .f32 S.b, .float .f32 S.g], .slice A n c] w (RDay (dayK S ts f n) (dayL S ts f) w) := by
  obtain ⟨i0, hi, hz0, hz1, hz2⟩ := info_parts infoF32
  have Hl := Lib.hid hl; clear hl
  have HT := Lib.hid hT; clear hT
  have HGP := Lib.hid (fun (k : Nat) => dayK_g (ts := ts) hg hf k)
  have HF := Lib.hid hf.1
  clear hg hf
  obtain ⟨k0, k1, bw⟩ := box_two w S; have hs0 : w.heap.size < ((w.alloc (.cells #[.float .f32 S.d, .float .f32 S.r, .float .f32 S.b, .float .f32 S.g] 42)).alloc (.cells #[.float .f32 0, .float .f32 0, .float .f32 0, .float .f32 0] 42)).heap.size := k0.lt; have hs1 : w.heap.size + 1 < ((w.alloc (.cells #[.float .f32 S.d, .float .f32 S.r, .float .f32 S.b, .float .f32 S.g] 42)).alloc (.cells #[.float .f32 0, .float .f32 0, .float .f32 0, .float .f32 0] 42)).heap.size := k1.lt; have K0 := Lib.hid k0; have K1 := Lib.hid k1; have Bw := Lib.hid bw; clear bw
  have o2 := One.on h2 (by rfl) Bw.out
  have lq := h2.lt
  have O2 := Lib.hid o2
  have hne1 : Hid (q2 ≠ w.heap.size) := (fun h => by omega)
  have hne2 : Hid (q2 ≠ w.heap.size + 1) := (fun h => by omega)
  clear h2 o2
  go_enter Try.func65, Try.ntmps65
  go_upto_region 1 with fail
  generalize ((w.alloc (.cells #[.float .f32 S.d, .float .f32 S.r, .float .f32 S.b, .float .f32 S.g] 42)).alloc (.cells #[.float .f32 0, .float .f32 0, .float .f32 0, .float .f32 0] 42)) = W at *; have c0 := k0.cell 0; have c1 := k0.cell 1; have c2 := k0.cell 2; have c3 := k0.cell 3; simp at c0 c1 c2 c3; have z0 := k0.frozen 3; have d0 := k1.cell 0; have d1 := k1.cell 1; have d2 := k1.cell 2; have d3 := k1.cell 3; simp at d0 d1 d2 d3; have y0 := k1.frozen 0; have y1 := k1.frozen 1; have y2 := k1.frozen 2; have y3 := k1.frozen 3; clear k0 k1
  clear c0 c1 c2 c3 d0 d1 d2 d3 y0 y1 y2 y3 z0
  have hbw := Bw.out.size
  go_wp2_with (at_make; refine wpList_make_own _ rfl _ _ 41 rfl W.heap.size 24 i0 _ 1 Try.underlying41 hi hz0 hz1 _ _ _ n rfl rfl (by omega) (by rw [hz2]; omega) (by unfold maxLen; omega) (Nat.le_refl _) ?_; intro w4 hown hgrow; have B4 : Hid (Below W.heap.size W w4) := (Below.refl _ _).grown hgrow (Nat.le_refl _) (fun k h => by cases h); have Ho := Lib.hid hown; clear hown hgrow)
  have K0 := Lib.hid (Blk.on K0.out (by rfl) B4.out); have K1 := Lib.hid (Blk.on K1.out (by rfl) B4.out); have O4 := Lib.hid (One.on O2.out (by rfl) B4.out)
  have BB4 : Hid (Below w.heap.size w w4) := b_then Bw.out B4.out
  have hW4 := B4.out.size
  go_loopw [8, 18] (fun v i wr => ∃ (j : Nat) (fs : List Nat) (T : Sn), j ≤ n ∧ i = .int .i64 j ∧ wr.ownsRow W.heap.size 24 1 v j (fs.map (Value.float .f32)) ∧ fs.map cn = (dayL S ts f).take j ∧ fs.length = j ∧ cnS T = dayK S ts f j ∧ Blk wr w.heap.size #[.float .f32 T.d, .float .f32 T.r, .float .f32 T.b, .float .f32 T.g] 42 ∧ Blk wr (w.heap.size + 1) #[.float .f32 0, .float .f32 0, .float .f32 0, .float .f32 0] 42 ∧ One wr q2 (.float .f32 f) 24 ∧ Below w.heap.size w wr ∧ W.heap.size ≤ wr.heap.size) (fun _ i _ => n - (intOf i).toNat)
  case atStart => exact ⟨0, [], S, Nat.zero_le _, rfl, Ho.out, rfl, rfl, rfl, K0.out, K1.out, O4.out, BB4.out, hW4⟩
  case round =>
    obtain ⟨j, fs, T, hj, rfl, hown, hcs, hfl, hTk, k0, k1, o2, hbb, hws⟩ := hrel
    have Hown := Lib.hid hown; have Hcs := Lib.hid hcs; have Hfl := Lib.hid hfl; have Hbb := Lib.hid hbb; have HTk := Lib.hid hTk; have KK0 := Lib.hid k0; have KK1 := Lib.hid k1; have OO2 := Lib.hid o2
    clear hown hcs hfl hbb hTk o2 k1
    by_cases hlt : j < n
    · have hkl : j < ts.length := by have := Hl.out; omega
      obtain ⟨b, off, rfl, hbs, hc⟩ := HT.out (by omega)
      obtain ⟨t, ht⟩ : ∃ t, ts[j]? = some t := ⟨_, List.getElem?_eq_getElem hkl⟩
      have e0 := (World.cell?_of_block (a := ⟨b, off + j, none⟩) (Hbb.out.block b hbs)).trans (hc j t ht)
      have hbz : b < wr.heap.size := Nat.lt_of_lt_of_le hbs Hbb.out.size
      have HTt := Lib.hid ht
      have HAt := Lib.hid (dayL_at (S := S) (f := f) hkl)
      clear hc hkl ht
      have c0 := k0.cell 0; have c1 := k0.cell 1; have c2 := k0.cell 2; have c3 := k0.cell 3; simp at c0 c1 c2 c3; have z0 := k0.frozen 0; have z1 := k0.frozen 1; have z2 := k0.frozen 2; have z3 := k0.frozen 3; have l0 := k0.lt
      clear k0
      go_wp2_with fail
      refine (implHour_any T t f (by rw [show cn T.g = (dayK S ts f j).g from congrArg Sn.g HTk.out]; exact (HGP.out j).1) HF.out q2 _ OO2.out).mono ?_
      rintro e w3 ⟨T1, x, rfl, hT1, hx, b3⟩
      have hnx := day_next HTk.out HTt.out hT1 hx
      have HNX := Lib.hid hnx
      have B3 : Hid (Below w.heap.size w w3) := b_then Hbb.out b3
      have O3 : Hid (w3.ownsRow W.heap.size 24 1 _ j (fs.map (Value.float .f32))) := own_below Hown.out b3
      have k0 := Blk.on KK0.out (by rfl) b3
      have KA := Lib.hid k0
      have KB := Lib.hid (Blk.on KK1.out (by rfl) b3)
      have OC := Lib.hid (One.on OO2.out (by rfl) b3)
      have hw3 : W.heap.size ≤ w3.heap.size := Nat.le_trans hws b3.size
      clear b3 hT1 hx hnx c0 c1 c2 c3 z0 z1 z2 z3 l0 e0
      have c0 := k0.cell 0; have c1 := k0.cell 1; have c2 := k0.cell 2; have c3 := k0.cell 3; simp at c0 c1 c2 c3; have z0 := k0.frozen 0; have z1 := k0.frozen 1; have z2 := k0.frozen 2; have z3 := k0.frozen 3; have l0 := k0.lt
      clear k0
      have hba := own_base Hown.out
      have Hba := Lib.hid hba
      clear hba
      have hq0 : w.heap.size < W.heap.size := by omega
      have hq1 : w.heap.size + 1 ≠ w.heap.size := by omega
      have hq2 : q2 < W.heap.size := by omega
      go_wp2_with (at_builtin; refine wpList_append_own _ rfl _ _ 41 rfl W.heap.size 24 i0 _ 1 4 Try.underlying41 hi hz0 hz1 hz2 rfl (by omega) _ j _ rfl (((own_setO (own_setO (own_setO (own_setO O3.out hq0 0 _) hq0 1 _) hq0 2 _) hq0 3 _).alloc _).alloc _) _ 1 _ [_] rfl rfl (World.news_of_block (cs := #[_]) (new_at (by simp) _)) (by intro u hu; simp at hu; subst hu; rfl) (by unfold maxLen; omega) (by omega) (by simp; omega) ?_; intro v9 w9 hown9 hgrow9 hif9)
      all_goals
        have hr0 : ∀ q, q < W.heap.size → some q ≠ _ := fun q hq h => by have := (Hba.out q h.symm).1; omega
        have hnr := hr0
        have KA9 := Lib.hid ((((((KA.out.set 0 _).set 1 _).set 2 _).set 3 _).push _).push _ |>.grown hgrow9 (hr0 _ hq0))
        have KB9 := Lib.hid ((((((KB.out.setO hq1 0 _).setO hq1 1 _).setO hq1 2 _).setO hq1 3 _).push _).push _ |>.grown hgrow9 (hr0 _ (by omega)))
        have OC9 := Lib.hid ((((((OneI OC.out hne1.out 0 _ |> fun h => OneI h hne1.out 1 _) |> fun h => OneI h hne1.out 2 _) |> fun h => OneI h hne1.out 3 _).push _).push _) |>.grown hgrow9 (hr0 _ hq2))
        have B9 : Hid (Below w.heap.size w w9) := (b_alloc (b_alloc (b_set (b_set (b_set (b_set B3.out (Nat.le_refl _) _ _) (Nat.le_refl _) _ _) (Nat.le_refl _) _ _) (Nat.le_refl _) _ _) _) _).grown hgrow9 (by simp; omega) (fun k h => by have := (Hba.out k h).1; omega)
        have O9 : Hid (w9.ownsRow W.heap.size 24 1 v9 (j + 1) ((fs ++ [x]).map (Value.float .f32))) := by
          rw [List.map_append]
          exact hown9
        have e9 : Hid ((fs ++ [x]).map cn = (dayL S ts f).take (j + 1)) := takeD_snoc Hcs.out (by rw [HAt.out, HNX.out.2])
        have l9 : Hid ((fs ++ [x]).length = j + 1) := by rw [List.length_append, Hfl.out]; rfl
        have s9 : W.heap.size ≤ w9.heap.size := by have := hgrow9.size; simp at this; omega
        clear hown9 hgrow9 hif9 hr0 hnr c0 c1 c2 c3 z0 z1 z2 z3
        go_roundw
        case rel => exact ⟨j + 1, fs ++ [x], T1, by omega, by go_num, O9.out, e9.out, l9.out, HNX.out.1, KA9.out, KB9.out, OC9.out, B9.out, s9⟩
        case measure => simp [intOf]; omega
    · obtain rfl : j = n := by omega
      have hz : fs.map cn = dayL S ts f := by
        have := Hcs.out
        rwa [List.take_of_length_le (by unfold dayL; rw [List.length_map, List.length_range, Hl.out]; exact Nat.le_refl _)] at this
      have Hz := Lib.hid hz; clear hz
      have c0 := k0.cell 0; have c1 := k0.cell 1; have c2 := k0.cell 2; have c3 := k0.cell 3; simp at c0 c1 c2 c3; have z0 := k0.frozen 0; have z1 := k0.frozen 1; have z2 := k0.frozen 2; have z3 := k0.frozen 3; have l0 := k0.lt
      clear k0
      have k1 := KK1.out
      have d0 := k1.cell 0; have d1 := k1.cell 1; have d2 := k1.cell 2; have d3 := k1.cell 3
      simp at d0 d1 d2 d3
      have y0 := k1.frozen 0; have y1 := k1.frozen 1; have y2 := k1.frozen 2; have y3 := k1.frozen 3
      have l1 := k1.lt
      clear k1
      go_wp2
      have q1 : w.heap.size ≤ w.heap.size + 1 := by omega
      have q3 : w.heap.size + 1 < W.heap.size := hs1
      refine bodyPost_ret (ret_snc (T := T) Try.results65 rfl ((((KK1.out.set 0 _).set 1 _).set 2 _).set 3 _)) rfl ⟨_, _, _, fs, rfl, HTk.out, ?_, Hfl.out, Hz.out, ?_⟩
      · exact own_more (own_setO (own_setO (own_setO (own_setO Hown.out q3 0 _) q3 1 _) q3 2 _) q3 3 _) (by omega)
      · exact b_set (b_set (b_set (b_set Hbb.out q1 _ _) q1 _ _) q1 _ _) q1 _ _
end Go.Proofs.Ytjkgiknklkfipaa
