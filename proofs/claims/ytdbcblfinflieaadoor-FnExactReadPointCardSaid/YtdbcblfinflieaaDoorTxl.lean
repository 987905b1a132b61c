/-
  Slices of texts; the model's cut of a text.
-/
import Derived.Test.YtdbcblfinflieaaDoorTxi
import Derived.Test.YtdbcblfinflieaaDoorBase
import Derived.Deep.DeepCutAuto
namespace Go.Proofs.YtdbcblfinflieaaDoor
open Go.RowKit Go.ChangeShapes Go.WideShapes Go.Deep
attribute [local go_sem ↓] Go.wp_at_zero Go.wp_at_succ
set_option linter.unusedVariables false
set_option linter.unusedSimpArgs false
set_option maxRecDepth 100000
def strV (x : List UInt8) : Value := .string (bsOf x)
/-- A slice that holds texts. -/
def StIn (w : World) (v : Value) (l : List (List UInt8)) : Prop := ∃ b o c, v = .slice (some ⟨b, o, none⟩) l.length c ∧ b < w.heap.size ∧ l.length ≤ c ∧ c ≤ maxLen ∧ ∀ j x, l[j]? = some x → w.cell? ⟨b, o + j, none⟩ = some (strV x)
theorem StIn.on {w W w' : World} {v : Value} {l : List (List UInt8)} (h : StIn w v l) (hW : W.heap = w.heap) (hb : Below W.heap.size W w') : StIn w' v l := by
  obtain ⟨b, o, c, rfl, h1, h2, h3, h4⟩ := h
  refine ⟨b, o, c, rfl, ?_, h2, h3, fun j x hx => cell_on (h4 j x hx) hW hb⟩
  have := hb.size
  rw [hW] at this
  omega
theorem StIn.of_row {w : World} {base n : Nat} {v : Value} {l : List (List UInt8)} (h : w.ownsRow base 9 1 v n (l.map strV)) (hn : 0 < n) : StIn w v l := by
  obtain ⟨h1, h2⟩ := h
  simp at h1
  rcases h2 with ⟨rfl, h0⟩ | ⟨g, cap, cur, rfl, hg, hh, hnc, hcap, hcs, ht⟩
  · omega
  · have hlt : g < w.heap.size := by
      rcases Nat.lt_or_ge g w.heap.size with hlt | hge
      · exact hlt
      · rw [Array.getElem?_eq_none hge] at hh; cases hh
    refine ⟨g, 0, cap, by rw [h1], hlt, by omega, hcap, fun j x hx => ?_⟩
    rw [Nat.zero_add, cell_of_row _ _ j _ _ _ hh]
    have hj : j < n := by rw [← h1]; exact (List.getElem?_eq_some_iff.1 hx).1
    have e1 := congrArg (fun l => l[j]?) ht
    simp only [List.getElem?_take, List.getElem?_map, hx, Option.map_some] at e1
    rw [if_pos (by omega)] at e1
    simpa using e1
theorem str_info : (Tryd.prog.info? 9).map (fun i => (i.zero, i.size, i.bytes)) = some (some (.string ⟨#[]⟩), 1, 16) := by kernel_rfl
theorem ext_bs (t : ByteArray) (f i : Nat) : t.extract f i = bsOf ((t.data.toList.drop f).take (i - f)) := by
  have := bsOf_of (t.extract f i)
  rw [Lib.extract_data] at this
  exact this.symm
/-- What the model has cut so far. -/
structure SpI (b : UInt8) (l : List UInt8) (dn : List (List UInt8)) (f i : Nat) : Prop where
  hs : spl b l = dn ++ spl b (l.drop f)
  hf : f ≤ i
  hd : dn.length ≤ f
  hn : b ∉ (l.drop f).take (i - f)
theorem SpI.cut {b : UInt8} {l : List UInt8} {dn : List (List UInt8)} {f i : Nat} (h : SpI b l dn f i) (hi : l[i]? = some b) : SpI b l (dn ++ [(l.drop f).take (i - f)]) (i + 1) (i + 1) := by
  obtain ⟨h1, h2, h3, h4⟩ := h
  obtain ⟨hl, hb⟩ := List.getElem?_eq_some_iff.1 hi
  have e : l.drop f = (l.drop f).take (i - f) ++ b :: l.drop (i + 1) := by
    conv => lhs; rw [← List.take_append_drop (i - f) (l.drop f)]
    rw [List.drop_drop, show f + (i - f) = i by omega, List.drop_eq_getElem_cons hl, hb]
  refine ⟨?_, Nat.le_refl _, by rw [List.length_append]; simp; omega, by simp⟩
  rw [h1, e, spl_sep b _ _ h4, List.append_assoc]
  have e2 : ((l.drop f).take (i - f) ++ b :: l.drop (i + 1)).take (i - f) = (l.drop f).take (i - f) := by rw [← e]
  rw [e2]
  rfl
theorem SpI.skip {b c : UInt8} {l : List UInt8} {dn : List (List UInt8)} {f i : Nat} (h : SpI b l dn f i) (hi : l[i]? = some c) (hc : ¬ c = b) : SpI b l dn f (i + 1) := by
  obtain ⟨h1, h2, h3, h4⟩ := h
  obtain ⟨hl, hb⟩ := List.getElem?_eq_some_iff.1 hi
  refine ⟨h1, by omega, h3, ?_⟩
  rw [show i + 1 - f = (i - f) + 1 by omega, List.take_add_one, List.getElem?_drop, show f + (i - f) = i by omega, hi]
  intro hm
  rcases List.mem_append.1 hm with hm | hm
  · exact h4 hm
  · simp at hm
    exact hc hm.symm
theorem SpI.done {b : UInt8} {l : List UInt8} {dn : List (List UInt8)} {f : Nat} (h : SpI b l dn f l.length) : spl b l = dn ++ [l.drop f] := by
  obtain ⟨h1, h2, h3, h4⟩ := h
  rw [List.take_of_length_le (by rw [List.length_drop]; exact Nat.le_refl _)] at h4
  rw [h1, spl_one b _ h4]
/-- The call returns a slice of texts of its own. -/
def RS (l : List (List UInt8)) (w : World) (e : Ending) (w' : World) : Prop := ∃ v, e = .returned v ∧ StIn w' v l ∧ Below w.heap.size w w'
set_option maxHeartbeats 4000000 in
theorem l01Split_any (t : ByteArray) (b : UInt8) (hs : t.size ≤ 1048576) (w : World) : Calls Tryd.prog 20 #[.string t, .int .u8 b.toNat] w (RS (spl b t.data.toList) w) := by
  obtain ⟨i0, hi, hz⟩ := Option.map_eq_some_iff.1 str_info
  injection hz with hz0 hz
  injection hz with hz1 hz2
  have hzs : (Value.string ⟨#[]⟩).cells.size = 1 := rfl
  have hat := fun k c h => run_at 9 Tryd.underlying9 t k c h
  have hext := ext_bs t
  obtain ⟨l, hl⟩ : ∃ l, l = t.data.toList := ⟨_, rfl⟩
  have hln : l.length = t.size := by rw [hl, Lib.size_eq]
  rw [← hl] at hat hext ⊢
  have Hat := Lib.hid hat
  have Hln := Lib.hid hln
  have Hext := Lib.hid hext
  have Hi := Lib.hid hi
  have Hz0 := Lib.hid hz0; have Hz1 := Lib.hid hz1; have Hz2 := Lib.hid hz2; have Hzs := Lib.hid hzs
  have O0 := Lib.hid (own_empty w w.heap.size 9 1 (Nat.le_refl _))
  have B0 := Lib.hid (b_alloc (Below.refl _ w) (.cells #[] 9))
  clear hl hln hat hext hi hz0 hz1 hz2 hzs
  go_enter Tryd.func20, Tryd.ntmps20
  go_wp2_with fail
  go_loopw [5, 6, 7] (fun v vf vi wr => ∃ (f i : Nat) (dn : List (List UInt8)), vf = .int .i64 f ∧ vi = .int .i64 i ∧ i ≤ t.size ∧ Hid (SpI b l dn f i) ∧ Hid (wr.ownsRow w.heap.size 9 1 v dn.length (dn.map strV)) ∧ Hid (Below w.heap.size w wr)) (fun _ _ vi _ => t.size - (intOf vi).toNat)
  case atStart => exact ⟨0, 0, [], rfl, rfl, by omega, ⟨rfl, Nat.le_refl _, by simp, by simp⟩, O0, B0⟩
  case round =>
    obtain ⟨f, i, dn, rfl, rfl, hit, hI, hO, hB⟩ := hrel
    have hfi := hI.out.hf
    have hdf := hI.out.hd
    have hba := own_base hO.out
    have Hba := Lib.hid hba
    clear hba
    by_cases hlt : i < t.size
    · obtain ⟨c, hc⟩ : ∃ c, l[i]? = some c := ⟨_, List.getElem?_eq_getElem (by rw [Hln.out]; exact hlt)⟩
      have hch := Hat.out i c hc
      by_cases hcb : c = b
      · subst hcb
        have hI2 := Lib.hid (hI.out.cut hc)
        have he := Hext.out f i
        have Hbs := Lib.hid he
        clear he hc
        go_wp2_with (at_builtin; refine wpList_append_own _ rfl (.tmp 20) (.tmp 25) 44 rfl w.heap.size 9 i0 _ 1 16 Tryd.underlying44 Hi.out Hz0.out Hz1.out Hz2.out Hzs.out (by omega) _ dn.length _ rfl (hO.out.alloc _) _ 1 _ [_] rfl rfl (World.news_of_block (cs := #[_]) (heap_alloc_new _ _)) (by intro u hu; simp at hu; subst hu; rfl) (by unfold maxLen; omega) (by omega) (by have := hB.out.size; simp; omega) ?_; intro v9 w9 hown9 hgrow9 hif9)
        have O9 : Hid (w9.ownsRow w.heap.size 9 1 v9 (dn ++ [(l.drop f).take (i - f)]).length ((dn ++ [(l.drop f).take (i - f)]).map strV)) := by
          rw [List.map_append, List.length_append]
          have h9 := hown9
          rw [Hbs.out] at h9
          exact h9
        have B9 : Hid (Below w.heap.size w w9) := (b_alloc hB.out _).grown hgrow9 (by have := hB.out.size; simp; omega) (fun k h => (Hba.out k h).1)
        exact ⟨⟨i + 1, i + 1, _, by go_num, by go_num, by omega, hI2, O9, B9⟩, by simp [intOf]; omega⟩
      · have hI2 := Lib.hid (hI.out.skip hc hcb)
        have hne : ((c.toNat : Int) == (b.toNat : Int)) = false := by
          rw [beq_eq_false_iff_ne]
          intro e
          exact hcb (UInt8.toNat_inj.1 (by omega))
        clear hc hcb
        go_wp2
        exact ⟨⟨f, i + 1, dn, rfl, by go_num, by omega, hI2, hO, hB⟩, by simp [intOf]; omega⟩
    · obtain rfl : i = t.size := by omega
      have hd2 : Hid (spl b l = dn ++ [l.drop f]) := by
        have h := hI.out
        rw [← Hln.out] at h
        exact Lib.hid h.done
      have he := Hext.out f t.size
      have e3 : (l.drop f).take (t.size - f) = l.drop f := List.take_of_length_le (by rw [List.length_drop, Hln.out]; exact Nat.le_refl _)
      rw [e3] at he
      have Hbs := Lib.hid he
      clear he e3
      go_wp2_with (at_builtin; refine wpList_append_own _ rfl (.tmp 29) (.tmp 33) 44 rfl w.heap.size 9 i0 _ 1 16 Tryd.underlying44 Hi.out Hz0.out Hz1.out Hz2.out Hzs.out (by omega) _ dn.length _ rfl (hO.out.alloc _) _ 1 _ [_] rfl rfl (World.news_of_block (cs := #[_]) (heap_alloc_new _ _)) (by intro u hu; simp at hu; subst hu; rfl) (by unfold maxLen; omega) (by omega) (by have := hB.out.size; simp; omega) ?_; intro v9 w9 hown9 hgrow9 hif9)
      have B9 : Hid (Below w.heap.size w w9) := (b_alloc hB.out _).grown hgrow9 (by have := hB.out.size; simp; omega) (fun k h => (Hba.out k h).1)
      have O9 : Hid (w9.ownsRow w.heap.size 9 1 v9 (spl b l).length ((spl b l).map strV)) := by
        rw [hd2.out, List.map_append, List.length_append]
        have h9 := hown9
        rw [Hbs.out] at h9
        exact h9
      clear hown9 hgrow9 hif9
      go_ret
      exact ⟨v9, rfl, StIn.of_row O9.out (List.length_pos_iff.2 (spl_ne b l)), B9.out⟩
end Go.Proofs.YtdbcblfinflieaaDoor
