/-
  The program's cut of a text; several numbers read at once.
-/
import Derived.Test.YtdbcblfinflieaaDoorTxl
import Derived.Laws.MakeOwn
namespace Go.Proofs.YtdbcblfinflieaaDoor
open Go.RowKit Go.ChangeShapes Go.WideShapes Go.Deep
attribute [local go_sem ↓] Go.wp_at_zero Go.wp_at_succ
set_option linter.unusedVariables false
set_option linter.unusedSimpArgs false
set_option maxRecDepth 100000
/-- The library's bound for its quick search is some integer. -/
def TmAt (w : World) : Prop := ∃ m : Int, w.cell? ⟨2, 0, none⟩ = some (.int .i64 m)
theorem TmAt.below {w w' : World} (h : TmAt w) (b : Below w.heap.size w w') : TmAt w' := by
  obtain ⟨m, hm⟩ := h
  exact ⟨m, cell_on hm rfl b⟩
theorem splitN_any (t : ByteArray) (b : UInt8) (n : Nat) (hn : 1 ≤ n) (hn2 : n ≤ 100) (hs : t.size ≤ 1048576) (w : World) (hM : TmAt w) : Calls Tryd.prog 23 #[.string t, .string ⟨#[b]⟩, .int .i64 n] w (RS (Lib.splitN t.data.toList [b] n) w) := by
  obtain ⟨m, hm⟩ := hM
  refine (Tryd.strings_SplitN t ⟨#[b]⟩ n m w (by omega) hm (by show 1 ≤ 1; omega) hn (by omega)).mono ?_
  rintro e w' ⟨rfl, rfl⟩
  have hd := Lib.splitB_data ⟨#[b]⟩ 0 (min n (t.size + 1) - 1) t
  have hl := Lib.splitB_length_le ⟨#[b]⟩ 0 (min n (t.size + 1) - 1) t
  have e1 : Lib.splitN t.data.toList [b] n = (Lib.splitB ⟨#[b]⟩ 0 (min n (t.size + 1) - 1) t).map (·.data.toList) := by
    rw [hd, Lib.splitN, ← Lib.size_eq]
  generalize Lib.splitB ⟨#[b]⟩ 0 (min n (t.size + 1) - 1) t = ps at *
  obtain ⟨N, hN⟩ : ∃ N, N = min n (t.size + 1) := ⟨_, rfl⟩
  rw [← hN] at hl ⊢
  have hN1 : 1 ≤ N := by omega
  have hN2 : N ≤ 100 := by omega
  refine ⟨_, rfl, ⟨w.heap.size, 0, N, by rw [e1, List.length_map], by simp, by rw [e1, List.length_map]; omega, by unfold maxLen; omega, fun j x hx => ?_⟩, b_alloc (Below.refl _ _) _⟩
  rw [Nat.zero_add, cell_of_row _ _ j _ _ _ (heap_alloc_new w _)]
  rw [e1, List.getElem?_map] at hx
  obtain ⟨y, hy, rfl⟩ := Option.map_eq_some_iff.1 hx
  have hj : j < ps.length := (List.getElem?_eq_some_iff.1 hy).1
  unfold Lib.cellsOf strV
  rw [bsOf_of]
  simp [List.getElem?_append, hj]
  exact (List.getElem?_eq_some_iff.1 hy).2
/-- All texts are texts of numbers. -/
def okAll (l : List (List UInt8)) : Bool := l.all fun x => (rdN x).isSome
def rdV (l : List (List UInt8)) : List Nat := l.map fun x => rnV (rdN x)
/-- A slice that holds numbers. -/
def FlV (w : World) (v : Value) (fs : List Nat) : Prop := ∃ b o c, v = .slice (some ⟨b, o, none⟩) fs.length c ∧ b < w.heap.size ∧ fs.length ≤ c ∧ c ≤ maxLen ∧ ∀ j x, fs[j]? = some x → w.cell? ⟨b, o + j, none⟩ = some (.float .f32 x)
theorem FlV.on {w W w' : World} {v : Value} {l : List Nat} (h : FlV w v l) (hW : W.heap = w.heap) (hb : Below W.heap.size W w') : FlV w' v l := by
  obtain ⟨b, o, c, rfl, h1, h2, h3, h4⟩ := h
  refine ⟨b, o, c, rfl, ?_, h2, h3, fun j x hx => cell_on (h4 j x hx) hW hb⟩
  have := hb.size
  rw [hW] at this
  omega
theorem FlV.of_row {w : World} {base n : Nat} {v : Value} {l : List Nat} (h : w.ownsRow base 32 1 v n (l.map (Value.float .f32))) (hn : 0 < n) : FlV w v l := by
  obtain ⟨h1, h2⟩ := h
  simp at h1
  rcases h2 with ⟨rfl, h0⟩ | ⟨g, cap, cur, rfl, hg, hh, hnc, hcap, hcs, ht⟩
  · omega
  · have hlt : g < w.heap.size := by
      rcases Nat.lt_or_ge g w.heap.size with hlt | hge
      · exact hlt
      · rw [Array.getElem?_eq_none hge] at hh; cases hh
    refine ⟨g, 0, cap, by rw [h1], hlt, by omega, hcap, fun j x hx => ?_⟩
    rw [Nat.zero_add, cell_of_row _ _ j _ _ _ hh]
    have hj : j < n := by rw [← h1]; exact (List.getElem?_eq_some_iff.1 hx).1
    have e1 := congrArg (fun l => l[j]?) ht
    simp only [List.getElem?_take, List.getElem?_map, hx, Option.map_some] at e1
    rw [if_pos (by omega)] at e1
    simpa using e1
theorem f32_info : (Tryd.prog.info? 32).map (fun i => (i.zero, i.size, i.bytes)) = some (some (.float .f32 0), 1, 4) := by kernel_rfl
theorem okAll_take_succ {l : List (List UInt8)} {k : Nat} {x : List UInt8} (h : okAll (l.take k) = true) (hx : l[k]? = some x) (hr : (rdN x).isSome = true) : okAll (l.take (k + 1)) = true := by
  unfold okAll at *
  rw [List.take_add_one, hx, List.all_append, h]
  simp [hr]
theorem okAll_bad {l : List (List UInt8)} {k : Nat} {x : List UInt8} (hx : l[k]? = some x) (hr : rdN x = none) : okAll l = false := by
  unfold okAll
  rw [List.all_eq_false]
  exact ⟨x, List.mem_of_getElem? hx, by rw [hr]; decide⟩
theorem rdV_take_succ {l : List (List UInt8)} {k : Nat} {x : List UInt8} (hx : l[k]? = some x) : rdV (l.take (k + 1)) = rdV (l.take k) ++ [rnV (rdN x)] := by
  unfold rdV
  rw [List.take_add_one, hx, List.map_append]
  rfl
/-- What the program makes of several texts. -/
def RNs (l : List (List UInt8)) (w : World) (e : Ending) (w' : World) : Prop := (if okAll l then ∃ v, e = .returned (.tuple #[v, .bool true]) ∧ FlV w' v (rdV l) else e = .returned (.tuple #[.slice none 0 0, .bool false])) ∧ Below w.heap.size w w'
set_option maxHeartbeats 4000000 in
theorem readNums_any (v : Value) (l : List (List UInt8)) (h0 : 0 < l.length) (h1 : l.length ≤ 100) (hz : ∀ x ∈ l, x.length ≤ 1048576) (w : World) (hl : StIn w v l) (hT : TbAt w) (hE : TeAt w) :
    Calls Tryd.prog 22 #[v] w (RNs l w) := by
  obtain ⟨i0, hi, hy⟩ := Option.map_eq_some_iff.1 f32_info
  injection hy with hy0 hy
  injection hy with hy1 hy2
  have hys : (Value.float .f32 0).cells.size = 1 := rfl
  obtain ⟨b, o, c, rfl, hb, hlc, hcm, hcell⟩ := hl
  have Hi := Lib.hid hi
  have Hy0 := Lib.hid hy0; have Hy1 := Lib.hid hy1; have Hy2 := Lib.hid hy2; have Hys := Lib.hid hys
  have Hcell := Lib.hid hcell; have Hz := Lib.hid hz; have HT := Lib.hid hT; have HE := Lib.hid hE
  clear hi hy0 hy1 hy2 hys hcell hz hT hE
  obtain ⟨n, hn⟩ : ∃ n, l.length = n := ⟨_, rfl⟩
  rw [hn] at h0 h1 hlc ⊢
  have Hn := Lib.hid hn
  clear hn
  go_enter Tryd.func22, Tryd.ntmps22
  go_wp2_with (at_make; refine wpList_make_own _ rfl _ _ 34 rfl w.heap.size 32 i0 _ 1 Tryd.underlying34 Hi.out Hy0.out Hy1.out _ _ _ n rfl rfl rfl (by rw [Hy2.out]; omega) (by unfold maxLen; omega) (Nat.le_refl _) ?_; intro w1 hown hgrow; have B1 : Hid (Below w.heap.size w w1) := (Below.refl _ w).grown hgrow (Nat.le_refl _) (fun k h => by cases h); have O1 := Lib.hid hown; clear hown hgrow)
  go_loopw [4, 14] (fun v vi wr => ∃ (k : Nat), vi = .int .i64 k ∧ k ≤ n ∧ Hid (okAll (l.take k) = true) ∧ Hid (wr.ownsRow w.heap.size 32 1 v k ((rdV (l.take k)).map (Value.float .f32))) ∧ Hid (Below w.heap.size w wr)) (fun _ vi _ => n - (intOf vi).toNat)
  case atStart => exact ⟨0, rfl, by omega, rfl, O1, B1⟩
  case round =>
    obtain ⟨k, rfl, hk, hA, hO, hB⟩ := hrel
    have hba := own_base hO.out
    have Hba := Lib.hid hba
    clear hba
    by_cases hlt : k < n
    · obtain ⟨x, hx⟩ : ∃ x, l[k]? = some x := ⟨_, List.getElem?_eq_getElem (by rw [Hn.out]; exact hlt)⟩
      have c0 := cell_on (Hcell.out k x hx) rfl hB.out
      have hxl := Hz.out x (List.mem_of_getElem? hx)
      have hL := readNum_any (bsOf x) (by rw [bsOf_size]; omega) wr (HT.out.below hB.out) (HE.out.below hB.out)
      rw [bsOf_data] at hL
      unfold strV at c0
      cases hr : rdN x with
      | some y =>
        rw [hr] at hL
        have L := Lib.hid hL
        have hA2 := Lib.hid (okAll_take_succ hA.out hx (by rw [hr]; rfl))
        have hV := rdV_take_succ hx
        rw [hr] at hV
        have HV := Lib.hid hV
        clear hL hx hr hV hxl
        have e0 : rnK (some y) = 0 := rfl
        have e1 : rnV (some y) = y := rfl
        rw [e0, e1] at L
        rw [e1] at HV
        clear e0 e1
        go_wp2_with fail
        refine L.out.mono ?_
        rintro e w2 ⟨rfl, b2⟩
        have B2 := Lib.hid (b_then hB.out b2)
        have O2 := Lib.hid (own_below hO.out b2)
        clear b2 c0
        go_wp2_with (at_builtin; refine wpList_append_own _ rfl (.tmp 25) (.tmp 27) 34 rfl w.heap.size 32 i0 _ 1 4 Tryd.underlying34 Hi.out Hy0.out Hy1.out Hy2.out Hys.out (by omega) _ k _ rfl (O2.out.alloc _) _ 1 _ [_] rfl rfl (World.news_of_block (cs := #[_]) (heap_alloc_new _ _)) (by intro u hu; simp at hu; subst hu; rfl) (by unfold maxLen; omega) (by omega) (by have := B2.out.size; simp; omega) ?_; intro v9 w9 hown9 hgrow9 hif9)
        have O9 : Hid (w9.ownsRow w.heap.size 32 1 v9 (k + 1) ((rdV (l.take (k + 1))).map (Value.float .f32))) := by
          rw [HV.out, List.map_append]
          exact hown9
        have B9 : Hid (Below w.heap.size w w9) := (b_alloc B2.out _).grown hgrow9 (by have := B2.out.size; simp; omega) (fun k h => (Hba.out k h).1)
        exact ⟨⟨k + 1, by go_num, by omega, hA2, O9, B9⟩, by simp [intOf]; omega⟩
      | none =>
        rw [hr] at hL
        have L := Lib.hid hL
        have HA := Lib.hid (okAll_bad hx hr)
        clear hL hx hr hxl
        have e0 : rnK none = 5 := rfl
        rw [e0] at L
        clear e0
        go_wp2_with fail
        refine L.out.mono ?_
        rintro e w2 ⟨rfl, b2⟩
        have B2 := Lib.hid (b_then hB.out b2)
        clear b2 c0
        go_wp2
        go_ret2
        refine ⟨?_, B2.out⟩
        rw [HA.out]
        rfl
    · obtain rfl : k = n := by omega
      have e1 : l.take k = l := List.take_of_length_le (by rw [Hn.out]; exact Nat.le_refl _)
      rw [e1] at hA hO
      clear e1
      go_wp2
      go_ret2
      refine ⟨?_, hB.out⟩
      rw [hA.out]
      exact ⟨_, rfl, FlV.of_row hO.out h0⟩
end Go.Proofs.YtdbcblfinflieaaDoor
