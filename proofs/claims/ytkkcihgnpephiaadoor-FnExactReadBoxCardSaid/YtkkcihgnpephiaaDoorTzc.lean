/-
  A box read from its text: the program's and the model's.
-/
import Derived.Test.YtkkcihgnpephiaaDoorTzb
namespace Go.Proofs.YtkkcihgnpephiaaDoor
open Go.RowKit Go.ChangeShapes Go.WideShapes Go.Deep
attribute [local go_sem ↓] Go.wp_at_zero Go.wp_at_succ
set_option linter.unusedVariables false
set_option linter.unusedSimpArgs false
set_option maxRecDepth 100000
theorem own_none (w : World) (base : Nat) (e : TypeId) : w.ownsRow base e 1 (.slice none 0 0) 0 [] := ⟨by simp, Or.inl ⟨rfl, rfl⟩⟩
theorem own_less {w : World} {base base' : Nat} {e : TypeId} {size : Nat} {v : Value} {n : Nat} {xs : List Value} (h : w.ownsRow base e size v n xs) (hb : base' ≤ base) : w.ownsRow base' e size v n xs := by
  obtain ⟨h1, h2⟩ := h
  refine ⟨h1, ?_⟩
  rcases h2 with h2 | ⟨g, cap, cur, hv, hg, r⟩
  · exact Or.inl h2
  · exact Or.inr ⟨g, cap, cur, hv, Nat.le_trans hb hg, r⟩
theorem rdz_none {w w' : World} {r : Option (List Int)} (h : r = none) (b : Below w.heap.size w w') : RdZ r w (.returned (.tuple #[.slice none 0 0, .int .i64 5])) w' := by subst h; exact ⟨_, rfl, own_none _ _ _, b⟩
theorem zpOf_take {ps : List (List UInt8)} {k : Nat} {x : List UInt8} {v : Int} (hx : ps[k]? = some x) (hv : i16V x = some v) : i16s (zpOf (ps.take (k + 1))) = i16s (zpOf (ps.take k)) ++ [.int .i16 v] := by
  unfold i16s zpOf
  rw [List.take_add_one, hx]
  simp [hv]
theorem okP_take {ps : List (List UInt8)} {k : Nat} {x : List UInt8} {v : Int} (h : okP (ps.take k) = true) (hx : ps[k]? = some x) (hv : i16V x = some v) : okP (ps.take (k + 1)) = true := by
  unfold okP at *
  rw [List.take_add_one, hx, List.all_append, h]
  simp [hv]
theorem zpOf_16 {ps : List (List UInt8)} : ∀ z ∈ zpOf ps, I16 z := fun z hz => by
  unfold zpOf at hz
  obtain ⟨x, _, rfl⟩ := List.mem_map.1 hz
  unfold I16
  cases h : i16V x with
  | none => simp
  | some v => have := i16V_range h; simp; omega
theorem ii_of_row {w : World} {base n : Nat} {v : Value} {zs : List Int} (h : w.ownsRow base 91 1 v n (i16s zs)) : ∃ A c, v = .slice A n c ∧ zs.length = n ∧ Ii w w.heap.size A zs ∧ (0 < n → ∃ g, A = some ⟨g, 0, none⟩ ∧ base ≤ g ∧ g < w.heap.size ∧ w.there g 0 n) := by
  obtain ⟨h1, h2⟩ := h
  simp [i16s] at h1
  rcases h2 with ⟨rfl, h0⟩ | ⟨g, cap, cur, rfl, hg, hh, hnc, hcap, hcs, ht⟩
  · subst h0
    exact ⟨none, 0, rfl, by simpa using h1, fun h => absurd h (by omega), fun h => absurd h (by omega)⟩
  · have hlt : g < w.heap.size := by
      rcases Nat.lt_or_ge g w.heap.size with hlt | hge
      · exact hlt
      · rw [Array.getElem?_eq_none hge] at hh; cases hh
    have hcell : ∀ i z, zs[i]? = some z → w.cell? ⟨g, i, none⟩ = some (.int .i16 z) := fun i z hz => by
      rw [cell_of_row _ _ i _ _ _ hh]
      have hj : i < n := by rw [← h1]; exact (List.getElem?_eq_some_iff.1 hz).1
      have e1 := congrArg (fun l => l[i]?) ht
      simp only [List.getElem?_take, i16s, List.getElem?_map, hz, Option.map_some] at e1
      rw [if_pos (by omega)] at e1
      simpa using e1
    refine ⟨_, cap, rfl, h1, fun _ => ⟨g, 0, rfl, hlt, fun i z hz => by rw [Nat.zero_add]; exact hcell i z hz⟩, fun _ => ⟨g, rfl, hg, hlt, fun j hj => ?_⟩⟩
    rw [Nat.zero_add]
    obtain ⟨z, hz⟩ : ∃ z, zs[j]? = some z := ⟨_, List.getElem?_eq_getElem (by rw [h1]; exact hj)⟩
    refine ⟨by rw [hcell j z hz]; rfl, ?_⟩
    unfold World.frozen?
    rw [hh]
    simp
set_option maxHeartbeats 4000000 in
theorem implReadBox_any (t : ByteArray) (hs : t.size ≤ 1048576) (w : World) (hT : TbAt w) (hE : TeAt w) (hM : TmAt w) : Calls Tryd.prog 46 #[.string t] w (RdZ (rzS t.data.toList) w) := by
  obtain ⟨i0, hi, hy0, hy1, hy2⟩ := info_parts infoI16
  have hys : (Value.int .i16 0).cells.size = 1 := rfl
  have Hi := Lib.hid hi
  have Hy0 := Lib.hid hy0; have Hy1 := Lib.hid hy1; have Hy2 := Lib.hid hy2; have Hys := Lib.hid hys
  have HS := Lib.hid (splitN_any t 32 25 (by decide) (by decide) hs w hM)
  have HT := Lib.hid hT; have HE := Lib.hid hE
  have hp := splitN_pos 32 25 t.data.toList (by decide)
  have Hsh : Hid (∀ x ∈ Lib.splitN t.data.toList [32] 25, x.length ≤ 1048576) := fun x hx => Nat.le_trans (splitN_short hx) (by rw [← Lib.size_eq]; exact hs)
  have Hbad := Lib.hid (fun k x h1 h2 => @rzP_bad t.data.toList k x h1 h2)
  have Htx := Lib.hid (rz_text t.data.toList)
  have Hbq := Lib.hid (fun l => beq_bs l t)
  obtain ⟨hp1, hp2⟩ := hp
  clear hT hE hM hi hy0 hy1 hy2 hys
  generalize rzS t.data.toList = R at *
  generalize t.data.toList = l at *
  generalize Lib.splitN l [32] 25 = ps at *
  obtain ⟨n, hn⟩ : ∃ n, ps.length = n := ⟨_, rfl⟩
  rw [hn] at hp1 hp2
  have Hn := Lib.hid hn
  go_enter Tryd.func46, Tryd.ntmps46
  go_wp2_with fail
  refine HS.out.mono ?_
  rintro e w1 ⟨v1, rfl, hst, b1⟩
  have HT1 := Lib.hid (HT.out.below b1); have HE1 := Lib.hid (HE.out.below b1); have B1 := Lib.hid b1
  obtain ⟨b, o, c, rfl, hb, hlc, hcm, hcell⟩ := hst
  have Hcell := Lib.hid hcell
  rw [hn] at hlc ⊢
  clear hcell HS HT HE b1 hn
  go_wp2_with fail
  go_loopw [4, 12] (fun v vi wr => ∃ (k : Nat), vi = .int .i64 k ∧ k ≤ n ∧ Hid (okP (ps.take k) = true) ∧ Hid (wr.ownsRow w1.heap.size 91 1 v k (i16s (zpOf (ps.take k)))) ∧ Hid (Below w1.heap.size w1 wr)) (fun _ vi _ => n - (intOf vi).toNat)
  case atStart => exact ⟨0, rfl, by omega, rfl, own_none _ _ _, Below.refl _ _⟩
  case round =>
    obtain ⟨k, rfl, hkn, hA, hO, hB⟩ := hrel
    have hba := own_base hO.out
    have Hba := Lib.hid hba
    clear hba
    by_cases hlt : k < n
    · obtain ⟨x, hx⟩ : ∃ x, ps[k]? = some x := ⟨_, List.getElem?_eq_getElem (by rw [Hn.out]; exact hlt)⟩
      have c0 := cell_on (Hcell.out k x hx) rfl hB.out
      unfold strV at c0
      have hxl := Hsh.out x (List.mem_of_getElem? hx)
      have hL := parseInt16_any (bsOf x) (by rw [bsOf_size]; omega) wr (HE1.out.below hB.out)
      rw [bsOf_data] at hL
      have L := Lib.hid hL
      clear hL hxl
      cases hv : i16V x with
      | none =>
        have HR := Lib.hid (Hbad.out k x hx hv)
        have Hv := Lib.hid hv
        clear hx hv
        go_wp2_with fail
        refine L.out.mono ?_
        rintro e w2 ⟨hpe, b2⟩
        rw [Hv.out] at hpe
        obtain ⟨y, N, rfl⟩ := hpe
        have B2 := Lib.hid (b_then B1.out (b_then hB.out b2))
        clear b2 c0
        go_wp2
        go_ret2
        exact rdz_none HR.out B2.out
      | some v =>
        have Hv := Lib.hid hv
        have Htk := Lib.hid (zpOf_take hx hv)
        have HA2 := Lib.hid (okP_take hA.out hx hv)
        have hvr := i16V_range hv
        have wv : IntKind.i16.wrap v = v := IntWalk.i16_in _ (by omega)
        clear hx hv hvr
        go_wp2_with fail
        refine L.out.mono ?_
        rintro e w2 ⟨hpe, b2⟩
        rw [Hv.out] at hpe
        obtain rfl := hpe
        have B2 := Lib.hid (b_then hB.out b2)
        have O2 := Lib.hid (own_below hO.out b2)
        clear b2 c0
        go_wp2_with (at_builtin; refine wpList_append_own _ rfl (.tmp 23) (.tmp 26) 59 rfl w1.heap.size 91 i0 _ 1 2 Tryd.underlying59 Hi.out Hy0.out Hy1.out Hy2.out Hys.out (by omega) _ k _ rfl (O2.out.alloc _) _ 1 _ [_] rfl rfl (World.news_of_block (cs := #[_]) (heap_alloc_new _ _)) (by intro u hu; simp at hu; subst hu; rfl) (by unfold maxLen; omega) (by omega) (by have := B2.out.size; simp; omega) ?_; intro v9 w9 hown9 hgrow9 hif9)
        have O9 : Hid (w9.ownsRow w1.heap.size 91 1 v9 (k + 1) (i16s (zpOf (ps.take (k + 1))))) := by
          rw [Htk.out]
          exact hown9
        have B9 : Hid (Below w1.heap.size w1 w9) := (b_alloc B2.out _).grown hgrow9 (by have := B2.out.size; simp; omega) (fun k h => (Hba.out k h).1)
        exact ⟨⟨k + 1, by go_num, by omega, HA2, O9, B9⟩, by simp [intOf]; omega⟩
    · obtain rfl : k = n := by omega
      have e1 : ps.take k = ps := List.take_of_length_le (by rw [Hn.out]; exact Nat.le_refl _)
      rw [e1] at hA hO
      have hR := Htx.out
      rw [hA.out, Bool.true_and] at hR
      have h16 := zpOf_16 (ps := ps)
      generalize zpOf ps = zs at *
      obtain ⟨A, cc, rfl, hl2, hI, _⟩ := ii_of_row hO.out
      have L := Lib.hid (implBoxText_any A k cc zs wr hl2 (by omega) h16 hI (HT1.out.below hB.out))
      have HR1 := Lib.hid hR
      have Hl2 := Lib.hid hl2
      have HI := Lib.hid hI
      clear e1 hR h16 hl2 hI Htx Hbad Hsh
      go_wp2_with fail
      refine L.out.mono ?_
      rintro e w4 ⟨rfl, b4⟩
      have B4 := Lib.hid (b_then B1.out (b_then hB.out b4))
      have O4 := Lib.hid (own_less (own_below hO.out b4) B1.out.size)
      clear b4
      have hbq := Hbq.out (textZ zs)
      have hR := HR1.out
      generalize bsOf (textZ zs) = TX at *
      cases hvv : (TX.toList == t.toList)
      · rw [hvv] at hbq
        have HR : Hid (R = none) := Lib.hid (by rw [hR, ← hbq]; rfl)
        clear hR hbq HR1 Hbq
        go_wp2
        go_ret2
        exact rdz_none HR.out B4.out
      · rw [hvv] at hbq
        have HR : Hid (R = some zs) := Lib.hid (by rw [hR, ← hbq]; rfl)
        clear hR hbq HR1 Hbq
        go_wp2
        go_ret2
        refine ⟨_, by rw [HR.out]; rfl, ?_, B4.out⟩
        rw [HR.out]
        show w4.ownsRow w.heap.size 91 1 _ zs.length (i16s zs)
        rw [Hl2.out]
        exact O4.out
end Go.Proofs.YtkkcihgnpephiaaDoor
