/-
  A train read from its text: the program's.
-/
import Derived.Test.YtkkcihgnpephiaaDoorTre
import Derived.Laws.AppendOwn
namespace Go.Proofs.YtkkcihgnpephiaaDoor
open Go.RowKit Go.ChangeShapes Go.WideShapes Go.Deep
attribute [local go_sem ↓] Go.wp_at_zero Go.wp_at_succ
set_option linter.unusedVariables false
set_option linter.unusedSimpArgs false
set_option maxRecDepth 100000
theorem heap_alloc_at {w : World} {o : Obj} {k : Nat} (hk : k = w.heap.size) : (w.alloc o).heap[k]? = some o := by subst hk; exact heap_alloc_new w o
def cellsR (ps : List Px) : List Value := ps.flatMap Px.cells
theorem cellsR_len (ps : List Px) : (cellsR ps).length = ps.length * 3 := by
  unfold cellsR
  induction ps with
  | nil => rfl
  | cons p r ih => rw [List.flatMap_cons, List.length_append, ih]; simp [Px.cells]; omega
theorem cellsR_at : ∀ (ps : List Px) (i : Nat) (p : Px), ps[i]? = some p → ∀ j v, p.cells[j]? = some v → (cellsR ps)[i * 3 + j]? = some v
  | [], i, p, h => by simp at h
  | q :: r, 0, p, h => fun j v hv => by
    simp at h; subst h
    unfold cellsR
    rw [List.flatMap_cons, Nat.zero_mul, Nat.zero_add, List.getElem?_append_left (List.getElem?_eq_some_iff.1 hv).1]
    exact hv
  | q :: r, i + 1, p, h => fun j v hv => by
    have ih := cellsR_at r i p (by simpa using h) j v hv
    unfold cellsR at ih ⊢
    rw [List.flatMap_cons, List.getElem?_append_right (by simp [Px.cells]; omega)]
    have e : (i + 1) * 3 + j - q.cells.length = i * 3 + j := by simp [Px.cells]; omega
    rw [e]; exact ih
theorem own_less' {w : World} {base base' : Nat} {e : TypeId} {size : Nat} {v : Value} {n : Nat} {xs : List Value} (h : w.ownsRow base e size v n xs) (hb : base' ≤ base) : w.ownsRow base' e size v n xs := by
  obtain ⟨h1, h2⟩ := h
  refine ⟨h1, ?_⟩
  rcases h2 with h2 | ⟨g, cap, cur, hv, hg, r⟩
  · exact Or.inl h2
  · exact Or.inr ⟨g, cap, cur, hv, Nat.le_trans hb hg, r⟩
theorem own_none3 (w : World) (base : Nat) (e : TypeId) : w.ownsRow base e 3 (.slice none 0 0) 0 [] := ⟨by simp, Or.inl ⟨rfl, rfl⟩⟩
theorem pl_of_row {w : World} {base n : Nat} {v : Value} {ps : List Px} (h : w.ownsRow base 93 3 v n (cellsR ps)) : ∃ A c, v = .slice A n c ∧ ps.length = n ∧ Px.L w w.heap.size A ps ∧ (0 < n → ∃ g, A = some ⟨g, 0, none⟩ ∧ base ≤ g ∧ g < w.heap.size ∧ w.there g 0 (n * 3)) := by
  obtain ⟨h1, h2⟩ := h
  rw [cellsR_len] at h1
  have h1 : ps.length = n := by omega
  rcases h2 with ⟨rfl, h0⟩ | ⟨g, cap, cur, rfl, hg, hh, hnc, hcap, hcs, ht⟩
  · subst h0
    exact ⟨none, 0, rfl, h1, fun h => absurd h (by omega), fun h => absurd h (by omega)⟩
  · have hlt : g < w.heap.size := by
      rcases Nat.lt_or_ge g w.heap.size with hlt | hge
      · exact hlt
      · rw [Array.getElem?_eq_none hge] at hh; cases hh
    have hcell : ∀ k u, (cellsR ps)[k]? = some u → w.cell? ⟨g, k, none⟩ = some u := fun k u hu => by
      rw [cell_of_row _ _ k _ _ _ hh]
      have hj : k < n * 3 := by rw [← h1, ← cellsR_len]; exact (List.getElem?_eq_some_iff.1 hu).1
      have e1 := congrArg (fun l => l[k]?) ht
      simp only [List.getElem?_take, hu] at e1
      rw [if_pos hj] at e1
      simpa using e1
    refine ⟨_, cap, rfl, h1, fun _ => ⟨g, 0, rfl, hlt, fun i p hp j u hu => ?_⟩, fun _ => ⟨g, rfl, hg, hlt, fun j hj => ?_⟩⟩
    · rw [Nat.zero_add]
      exact hcell _ _ (cellsR_at ps i p hp j u hu)
    · rw [Nat.zero_add]
      obtain ⟨u, hu⟩ : ∃ u, (cellsR ps)[j]? = some u := ⟨_, List.getElem?_eq_getElem (by rw [cellsR_len, h1]; exact hj)⟩
      refine ⟨by rw [hcell j u hu]; rfl, ?_⟩
      unfold World.frozen?
      rw [hh]
      simp
def rL (r : Option (List Px)) : List Px := r.getD []
def rK (r : Option (List Px)) : Int := if r.isSome then 0 else 5
/-- The call returns a train of its own, and a code. -/
def RdR (r : Option (List Px)) (w : World) (e : Ending) (w' : World) : Prop := ∃ v, e = .returned (.tuple #[v, .int .i64 (rK r)]) ∧ w'.ownsRow w.heap.size 93 3 v (rL r).length (cellsR (rL r)) ∧ Below w.heap.size w w'
theorem rdr_none {w w' : World} {r : Option (List Px)} (h : r = none) (b : Below w.heap.size w w') : RdR r w (.returned (.tuple #[.slice none 0 0, .int .i64 5])) w' := by subst h; exact ⟨_, rfl, own_none3 _ _ _, b⟩
theorem psI_take {ws : List (List UInt8)} {k : Nat} {x : List UInt8} {p : Px} (hx : ws[k]? = some x) (hv : rpI x = some p) : cellsR (psI (ws.take (k + 1))) = cellsR (psI (ws.take k)) ++ p.cells := by
  unfold cellsR psI
  rw [List.take_add_one, hx]
  simp [hv]
theorem okWI_take {ws : List (List UInt8)} {k : Nat} {x : List UInt8} {p : Px} (h : okWI (ws.take k) = true) (hx : ws[k]? = some x) (hv : rpI x = some p) : okWI (ws.take (k + 1)) = true := by
  unfold okWI at *
  rw [List.take_add_one, hx, List.all_append, h]
  simp [hv]
theorem rpI_wf {x : List UInt8} {p : Px} (h : rpI x = some p) : p.wf := by
  unfold rpI at h
  split at h
  · rename_i m n l hm hn hl
    split at h
    · injection h with h
      subst h
      have h1 := i16V_range hm
      have h2 := i16V_range hn
      have h3 := (rdN_some (x := cutZ x) (by rw [hl]; rfl)).1
      rw [hl] at h3
      exact ⟨h1, h2, h3⟩
    · cases h
  · cases h
theorem psI_wf {ws : List (List UInt8)} (h : okWI ws = true) : ∀ p ∈ psI ws, p.wf := fun p hp => by
  unfold psI at hp
  obtain ⟨x, hx, rfl⟩ := List.mem_map.1 hp
  unfold okWI at h
  obtain ⟨q, hq⟩ := Option.isSome_iff_exists.1 (List.all_eq_true.1 h x hx)
  rw [hq]
  exact rpI_wf hq
theorem rtr_bad {l : List UInt8} {k : Nat} {x : List UInt8} (hx : (Lib.splitN l [32] 9)[k]? = some x) (h : rpI x = none) : rtrS l = none := by
  rw [rtr_text]
  have : okWI (Lib.splitN l [32] 9) = false := by
    unfold okWI
    rw [List.all_eq_false]
    exact ⟨x, List.mem_of_getElem? hx, by rw [h]; decide⟩
  rw [this]; rfl
set_option maxHeartbeats 4000000 in
theorem implReadTrain_any (t : ByteArray) (hs : t.size ≤ 1048576) (w : World) (hT : TbAt w) (hE : TeAt w) (hM : TmAt w) : Calls Tryd.prog 26 #[.string t] w (RdR (rtrS t.data.toList) w) := by
  obtain ⟨i0, hi, hy0, hy1, hy2⟩ := info_parts infoPair
  have hys : (Value.agg #[.int .i16 0, .int .i16 0, .float .f32 0]).cells.size = 3 := rfl
  have Hi := Lib.hid hi
  have Hy0 := Lib.hid hy0; have Hy1 := Lib.hid hy1; have Hy2 := Lib.hid hy2; have Hys := Lib.hid hys
  have HS := Lib.hid (splitN_any t 32 9 (by decide) (by decide) hs w hM)
  have HT := Lib.hid hT; have HE := Lib.hid hE; have HM := Lib.hid hM
  have hp := splitN_pos 32 9 t.data.toList (by decide)
  have Hsh : Hid (∀ x ∈ Lib.splitN t.data.toList [32] 9, x.length ≤ 1048576) := fun x hx => Nat.le_trans (splitN_short hx) (by rw [← Lib.size_eq]; exact hs)
  have Hbad := Lib.hid (fun k x h1 h2 => @rtr_bad t.data.toList k x h1 h2)
  have Htx := Lib.hid (rtr_text t.data.toList)
  obtain ⟨hp1, hp2⟩ := hp
  clear hT hE hM hi hy0 hy1 hy2 hys
  generalize rtrS t.data.toList = R at *
  generalize t.data.toList = l at *
  generalize Lib.splitN l [32] 9 = ws at *
  obtain ⟨n, hn⟩ : ∃ n, ws.length = n := ⟨_, rfl⟩
  rw [hn] at hp1 hp2
  have Hn := Lib.hid hn
  go_enter Tryd.func26, Tryd.ntmps26
  go_wp2_with fail
  refine HS.out.mono ?_
  rintro e w1 ⟨v1, rfl, hst, b1⟩
  have HT1 := Lib.hid (HT.out.below b1); have HE1 := Lib.hid (HE.out.below b1); have HM1 := Lib.hid (HM.out.below b1); have B1 := Lib.hid b1
  obtain ⟨b, o, c, rfl, hb, hlc, hcm, hcell⟩ := hst
  have Hcell := Lib.hid hcell
  rw [hn] at hlc ⊢
  clear hcell HS HT HE HM b1 hn
  go_wp2_with fail
  go_loopw [4, 12] (fun v vi wr => ∃ (k : Nat), vi = .int .i64 k ∧ k ≤ n ∧ Hid (okWI (ws.take k) = true) ∧ Hid (wr.ownsRow w1.heap.size 93 3 v k (cellsR (psI (ws.take k)))) ∧ Hid (Below w1.heap.size w1 wr)) (fun _ vi _ => n - (intOf vi).toNat)
  case atStart => exact ⟨0, rfl, by omega, rfl, own_none3 _ _ _, Below.refl _ _⟩
  case round =>
    obtain ⟨k, rfl, hkn, hA, hO, hB⟩ := hrel
    have hba := own_base hO.out
    have Hba := Lib.hid hba
    clear hba
    by_cases hlt : k < n
    · obtain ⟨x, hx⟩ : ∃ x, ws[k]? = some x := ⟨_, List.getElem?_eq_getElem (by rw [Hn.out]; exact hlt)⟩
      have c0 := cell_on (Hcell.out k x hx) rfl hB.out
      unfold strV at c0
      have hxl := Hsh.out x (List.mem_of_getElem? hx)
      have hL := readPair_any (bsOf x) (by rw [bsOf_size]; omega) wr (HT1.out.below hB.out) (HE1.out.below hB.out) (HM1.out.below hB.out)
      rw [bsOf_data] at hL
      have L := Lib.hid hL
      clear hL hxl
      cases hv : rpI x with
      | none =>
        have HR := Lib.hid (Hbad.out k x hx hv)
        rw [hv] at L
        clear hx hv
        go_wp2_with fail
        refine L.out.mono ?_
        rintro e w2 ⟨⟨p, rfl, hp⟩, b2⟩
        have B2 := Lib.hid (b_then B1.out (b_then hB.out b2))
        clear b2 c0 hp
        go_wp2
        go_ret2
        exact rdr_none HR.out (b_alloc B2.out _)
      | some q =>
        have Htk := Lib.hid (psI_take hx hv)
        have HA2 := Lib.hid (okWI_take hA.out hx hv)
        rw [hv] at L
        clear hx hv
        go_wp2_with fail
        refine L.out.mono ?_
        rintro e w2 ⟨⟨p, rfl, hp⟩, b2⟩
        obtain rfl := hp q rfl
        have B2 := Lib.hid (b_alloc (b_then hB.out b2) (.cells #[.int .i16 p.a, .int .i16 p.b, .float .f32 p.l] 93))
        have O2 := Lib.hid (own_below hO.out (b_alloc b2 (.cells #[.int .i16 p.a, .int .i16 p.b, .float .f32 p.l] 93)))
        clear b2 c0 hp
        go_wp2_with (at_builtin; refine wpList_append_own _ rfl (.tmp 23) (.tmp 25) 34 rfl w1.heap.size 93 i0 _ 3 8 Tryd.underlying34 Hi.out Hy0.out Hy1.out Hy2.out Hys.out (by omega) _ k _ rfl (O2.out.alloc _) _ 1 _ p.cells rfl rfl (World.news_of_block (cs := #[_, _, _]) (heap_alloc_at (by simp))) (by intro u hu; simp [Px.cells] at hu; rcases hu with rfl | rfl | rfl <;> rfl) (by unfold maxLen; omega) (by omega) (by have := B2.out.size; simp at this ⊢; omega) ?_; intro v9 w9 hown9 hgrow9 hif9)
        have O9 : Hid (w9.ownsRow w1.heap.size 93 3 v9 (k + 1) (cellsR (psI (ws.take (k + 1))))) := by
          rw [Htk.out]
          exact hown9
        have B9 : Hid (Below w1.heap.size w1 w9) := (b_alloc B2.out _).grown hgrow9 (by have := B2.out.size; simp at this ⊢; omega) (fun k h => (Hba.out k h).1)
        exact ⟨⟨k + 1, by go_num, by omega, HA2, O9, B9⟩, by simp [intOf]; omega⟩
    · obtain rfl : k = n := by omega
      have e1 : ws.take k = ws := List.take_of_length_le (by rw [Hn.out]; exact Nat.le_refl _)
      rw [e1] at hA hO
      have hR := Htx.out
      rw [hA.out, Bool.true_and] at hR
      have hwf := psI_wf hA.out
      generalize psI ws = ps at *
      obtain ⟨A, cc, rfl, hl2, hI, _⟩ := pl_of_row hO.out
      have L := Lib.hid (validTrain_any A k cc ps wr hl2 (by omega) hI hwf)
      have HR1 := Lib.hid hR
      have Hl2 := Lib.hid hl2
      clear e1 hR hl2 hI Htx Hbad Hsh hwf
      go_wp2_with fail
      refine L.out.mono ?_
      rintro e w4 ⟨rfl, b4⟩
      have B4 := Lib.hid (b_then B1.out (b_then hB.out b4))
      have O4 := Lib.hid (own_less' (own_below hO.out b4) B1.out.size)
      clear b4
      have hR := HR1.out
      cases hvv : okTr ps
      · have HR : Hid (R = none) := Lib.hid (by rw [hR, hvv]; rfl)
        clear hR HR1 hvv
        go_wp2
        go_ret2
        exact rdr_none HR.out B4.out
      · have HR : Hid (R = some ps) := Lib.hid (by rw [hR, hvv]; rfl)
        clear hR HR1 hvv
        go_wp2
        go_ret2
        refine ⟨_, by rw [HR.out]; rfl, ?_, B4.out⟩
        rw [HR.out]
        show w4.ownsRow w.heap.size 93 3 _ ps.length (cellsR ps)
        rw [Hl2.out]
        exact O4.out
end Go.Proofs.YtkkcihgnpephiaaDoor
