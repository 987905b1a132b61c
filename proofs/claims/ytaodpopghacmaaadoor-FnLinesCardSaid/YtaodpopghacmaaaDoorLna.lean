/-
  When a line is valid: both sides; the codes of a line.
-/
import Derived.Test.YtaodpopghacmaaaDoorDiscS
namespace Go.Proofs.YtaodpopghacmaaaDoor
open Go.RowKit Go.ChangeShapes Go.WideShapes Go.Deep
attribute [local go_sem ↓] Go.wp_at_zero Go.wp_at_succ
set_option linter.unusedVariables false
set_option linter.unusedSimpArgs false
set_option maxRecDepth 100000
def okD (X : Dc) : Bool := oGe X.i 1015021568 && (oLe X.i 1149239296 && (oGe X.s 1015021568 && oLe X.s 1233125376))
def allD (ds : List Dc) : Bool := ds.all okD
def fewD (n : Nat) : Bool := decide (2 ≤ n) && decide (n ≤ 10)
theorem fewD_int (n : Nat) : (decide ((2 : Int) ≤ (n : Int)) && decide ((n : Int) ≤ 10)) = fewD n := by
  unfold fewD
  rw [Bool.eq_iff_iff]
  simp
  omega
def okLine (ds : List Dc) : Bool := fewD ds.length && allD ds
theorem allD_take {ts : List Dc} {k : Nat} {X : Dc} (h : ts[k]? = some X) : allD (ts.take (k + 1)) = (allD (ts.take k) && okD X) := by
  unfold allD
  rw [List.take_add_one, h, List.all_append]
  simp
theorem allD_bad {ts : List Dc} {k : Nat} {X : Dc} (h : ts[k]? = some X) (hx : okD X = false) : allD ts = false := List.all_eq_false.2 ⟨X, List.mem_of_getElem? h, by simp [hx]⟩
theorem okLine_bad {ts : List Dc} (h : allD ts = false) : okLine ts = false := by unfold okLine; rw [h, Bool.and_false]
theorem okLine_few {ts : List Dc} {n : Nat} (hl : ts.length = n) (h : fewD n = false) : okLine ts = false := by unfold okLine; rw [hl, h, Bool.false_and]
theorem okLine_all {ts : List Dc} {n : Nat} (hl : ts.length = n) (h : allD ts = true) : okLine ts = fewD n := by unfold okLine; rw [hl, h, Bool.and_true]
theorem isValidD_any (X : Dc) (w : World) : Calls Tryd.prog 30 #[.agg #[.float .f32 X.i, .float .f32 X.s]] w (RV (.bool (okD X)) w) := by
  unfold okD
  obtain ⟨a, ha⟩ : ∃ a, oGe X.i 1015021568 = a := ⟨_, rfl⟩
  obtain ⟨b, hb⟩ : ∃ a, oLe X.i 1149239296 = a := ⟨_, rfl⟩
  obtain ⟨c, hc⟩ : ∃ a, oGe X.s 1015021568 = a := ⟨_, rfl⟩
  obtain ⟨d, hd⟩ : ∃ a, oLe X.s 1233125376 = a := ⟨_, rfl⟩
  rw [ha, hb, hc, hd]
  unfold oGe at ha hc
  unfold oLe at hb hd
  go_enter Tryd.func30, Tryd.ntmps30
  go_wp2
  all_goals
    go_ret
    refine ⟨?_, by (repeat (first | exact Below.refl _ _ | refine b_drewN ?_ _ | refine b_drew ?_ | refine b_alloc ?_ _ | refine b_then ?_ (by assumption)))⟩
    simp_all
theorem l00In_any (a b c : Int) (w : World) : Calls Tryd.prog 42 #[.int .i64 a, .int .i64 b, .int .i64 c] w (RV (.bool (decide (b ≤ a) && decide (a ≤ c))) w) := by
  by_cases h1 : b ≤ a
  · have h1' : a ≥ b := h1
    by_cases h2 : a ≤ c
    · rw [decide_eq_true h1, decide_eq_true h2]
      go_enter Tryd.func42, Tryd.ntmps42
      go_wp2
      go_ret
      exact ⟨by simp [h2], Below.refl _ _⟩
    · rw [decide_eq_true h1, decide_eq_false h2]
      go_enter Tryd.func42, Tryd.ntmps42
      go_wp2
      go_ret
      exact ⟨by simp [h2], Below.refl _ _⟩
  · have h1' : ¬ a ≥ b := h1
    rw [decide_eq_false h1, Bool.false_and]
    go_enter Tryd.func42, Tryd.ntmps42
    go_wp2
    go_ret
    exact ⟨by simp [h1], Below.refl _ _⟩
set_option maxHeartbeats 2000000 in
theorem l07Line_any (A : Option Addr) (n c : Nat) (ds : List Dc) (w : World) (hl : ds.length = n) (hn : n ≤ 1048576) (hT : Dc.L w w.heap.size A ds) :
    Calls Tryd.prog 33 #[.slice A n c] w (RV (.bool (okLine ds)) w) := by
  obtain ⟨t, ht⟩ : ∃ t, okLine ds = t := ⟨_, rfl⟩
  rw [ht]
  have F1 := Lib.hid (fun h : allD ds = false => (ht.symm.trans (okLine_bad h) : t = false))
  have F2 := Lib.hid (fun h : allD ds = true => (ht.symm.trans (okLine_all hl h) : t = fewD n))
  have Hl := Lib.hid hl; have HT := Lib.hid hT
  clear hl hT ht
  go_enter Tryd.func33, Tryd.ntmps33
  go_wp2_with fail
  go_loopw [3] (fun i wr => ∃ k : Nat, k ≤ n ∧ i = .int .i64 k ∧ Hid (allD (ds.take k) = true) ∧ Hid (Below w.heap.size w wr)) (fun i _ => n - (intOf i).toNat)
  case atStart => exact ⟨0, Nat.zero_le _, rfl, by show _ = _; simp [allD], Below.refl _ _⟩
  case round =>
    obtain ⟨k, hk, rfl, hp, hb⟩ := hrel
    by_cases hlt : k < n
    · have hkl : k < ds.length := by have := Hl.out; omega
      obtain ⟨b, off, rfl, hbs, hc⟩ := HT.out (by omega)
      obtain ⟨X, hX⟩ : ∃ X, ds[k]? = some X := ⟨_, List.getElem?_eq_getElem hkl⟩
      obtain ⟨c0, c1⟩ := Dc.at (rangeAt_of_block (hc k X hX) (hb.out.block b hbs))
      have hs := allD_take hX
      rw [hp.out, Bool.true_and] at hs
      have Hs := Lib.hid hs
      have Hd := Lib.hid (fun h : okD X = false => allD_bad hX h)
      have Bx : Hid (Below w.heap.size w (wr.alloc (.cells #[.float .f32 X.i, .float .f32 X.s] 54))) := b_alloc hb.out _
      clear hc hkl hX hs
      obtain ⟨a, ha⟩ : ∃ a, oGe X.i 1015021568 = a := ⟨_, rfl⟩
      obtain ⟨b', hb'⟩ : ∃ a, oLe X.i 1149239296 = a := ⟨_, rfl⟩
      obtain ⟨c', hc'⟩ : ∃ a, oGe X.s 1015021568 = a := ⟨_, rfl⟩
      obtain ⟨d', hd'⟩ : ∃ a, oLe X.s 1233125376 = a := ⟨_, rfl⟩
      have hu : okD X = (a && (b' && (c' && d'))) := by unfold okD; rw [ha, hb', hc', hd']
      have HU := Lib.hid hu
      clear hu
      unfold oGe at ha hc'
      unfold oLe at hb' hd'
      cases a
      · (have E1 := Lib.hid (F1.out (Hd.out HU.out)); go_wp2_with fail; go_ret; exact ⟨by rw [E1.out]; rfl, Bx.out⟩)
      · cases b'
        · (have E1 := Lib.hid (F1.out (Hd.out HU.out)); go_wp2_with fail; go_ret; exact ⟨by rw [E1.out]; rfl, Bx.out⟩)
        · cases c'
          · (have E1 := Lib.hid (F1.out (Hd.out HU.out)); go_wp2_with fail; go_ret; exact ⟨by rw [E1.out]; rfl, Bx.out⟩)
          · cases d'
            · (have E1 := Lib.hid (F1.out (Hd.out HU.out)); go_wp2_with fail; go_ret; exact ⟨by rw [E1.out]; rfl, Bx.out⟩)
            · have Hs2 : Hid (allD (ds.take (k + 1)) = true) := Hs.out.trans HU.out
              go_wp2_with fail
              go_roundw
              case rel => exact ⟨k + 1, by omega, by go_num, Hs2, Bx⟩
              case measure => simp [intOf]; omega
    · obtain rfl : k = n := by omega
      have ha : allD ds = true := by have := hp.out; rwa [List.take_of_length_le (by have := Hl.out; omega)] at this
      have E3 := Lib.hid (F2.out ha)
      clear ha
      go_wp2_with (go_at_call 42; refine (l00In_any _ _ _ _).mono ?_; rintro e w1 ⟨rfl, b1⟩)
      go_ret
      exact ⟨by rw [E3.out, ← fewD_int]; rfl, b_then hb.out b1⟩
set_option maxHeartbeats 2000000 in
theorem validLine_any (A : Option Addr) (n c : Nat) (ds : List Dc) (w : World) (hl : ds.length = n) (hn : n ≤ 1048576) (hT : Dc.L w w.heap.size A ds) :
    Calls Tryd.prog 12 #[.slice A n c] w (RV (.bool (okLine ds)) w) := by
  obtain ⟨t, ht⟩ : ∃ t, okLine ds = t := ⟨_, rfl⟩
  rw [ht]
  have F0 := Lib.hid (fun h : fewD n = false => (ht.symm.trans (okLine_few hl h) : t = false))
  have F1 := Lib.hid (fun h : allD ds = false => (ht.symm.trans (okLine_bad h) : t = false))
  have F2 := Lib.hid (fun h : allD ds = true => (ht.symm.trans (okLine_all hl h) : t = fewD n))
  have Hl := Lib.hid hl; have HT := Lib.hid hT
  clear hl hT ht
  by_cases h2 : n < 2
  · have E1 := Lib.hid (F0.out (by unfold fewD; simp; omega))
    have h2' : (n : Int) < 2 := by omega
    go_enter Tryd.func12, Tryd.ntmps12
    go_wp2_with fail
    go_ret
    exact ⟨by rw [E1.out]; rfl, Below.refl _ _⟩
  · by_cases h10 : n > 10
    · have E1 := Lib.hid (F0.out (by unfold fewD; simp; omega))
      have h2' : ¬ (n : Int) < 2 := by omega
      have h10' : (n : Int) > 10 := by omega
      go_enter Tryd.func12, Tryd.ntmps12
      go_wp2_with fail
      go_ret
      exact ⟨by rw [E1.out]; rfl, Below.refl _ _⟩
    · have Ef : Hid (fewD n = true) := by show _ = _; unfold fewD; simp; omega
      have h2' : ¬ (n : Int) < 2 := by omega
      have h10' : ¬ (n : Int) > 10 := by omega
      go_enter Tryd.func12, Tryd.ntmps12
      go_wp2_with fail
      go_loopw [4, 15] (fun v4 i wr => ∃ k : Nat, k ≤ n ∧ i = .int .i64 k ∧ Hid (allD (ds.take k) = true) ∧ Hid (Below w.heap.size w wr)) (fun _ i _ => n - (intOf i).toNat)
      case atStart => exact ⟨0, Nat.zero_le _, rfl, by show _ = _; simp [allD], Below.refl _ _⟩
      case round =>
        obtain ⟨k, hk, rfl, hp, hb⟩ := hrel
        by_cases hlt : k < n
        · have hkl : k < ds.length := by have := Hl.out; omega
          obtain ⟨b, off, rfl, hbs, hc⟩ := HT.out (by omega)
          obtain ⟨X, hX⟩ : ∃ X, ds[k]? = some X := ⟨_, List.getElem?_eq_getElem hkl⟩
          obtain ⟨c0, c1⟩ := Dc.at (rangeAt_of_block (hc k X hX) (hb.out.block b hbs))
          obtain ⟨u, hu⟩ : ∃ u, okD X = u := ⟨_, rfl⟩
          have hv := Lib.hid (fun w => isValidD_any X w)
          rw [hu] at hv
          have hs := allD_take hX
          rw [hp.out, Bool.true_and, hu] at hs
          have Hs := Lib.hid hs
          have Hd := Lib.hid (fun h : u = false => allD_bad hX (hu.trans h))
          have Bx : Hid (Below w.heap.size w (wr.alloc (.cells #[.float .f32 X.i, .float .f32 X.s] 54))) := b_alloc hb.out _
          clear hc hkl hX hs hu
          cases u
          · have E1 := Lib.hid (F1.out (Hd.out (by trivial)))
            go_wp2_with (go_at_call 30; refine (hv.out _).mono ?_; rintro e w1 ⟨rfl, b1⟩)
            go_ret
            exact ⟨by rw [E1.out]; rfl, b_then Bx.out b1⟩
          · go_wp2_with (go_at_call 30; refine (hv.out _).mono ?_; rintro e w1 ⟨rfl, b1⟩; have B1 : Hid (Below w.heap.size w w1) := b_then Bx.out b1; clear b1)
            go_roundw
            case rel => exact ⟨k + 1, by omega, by go_num, Hs, B1⟩
            case measure => simp [intOf]; omega
        · obtain rfl : k = n := by omega
          have ha : allD ds = true := by have := hp.out; rwa [List.take_of_length_le (by have := Hl.out; omega)] at this
          have E3 := Lib.hid ((F2.out ha).trans Ef.out)
          clear ha
          go_wp2_with fail
          go_ret
          exact ⟨by rw [E3.out]; rfl, hb.out⟩
def codeL (ds : List Dc) (q : Nat) : Int := if okLine ds then (if psB q then 0 else 2) else 1
theorem l07Fast_any (m : Nat) (w : World) : Calls Tryd.prog 34 #[.float .f32 m] w fun e w' => e = .returned (.bool (psB m)) ∧ w = w' := by
  unfold psB oGe oLe
  go_enter Tryd.func34, Tryd.ntmps34
  go_wp2
  · go_ret
    exact ⟨rfl, rfl⟩
  · rename_i h
    go_ret
    refine ⟨?_, rfl⟩
    simp at h
    simp [h]
theorem l07Asked_any (A : Option Addr) (n c : Nat) (ds : List Dc) (q : Nat) (w : World) (hl : ds.length = n) (hn : n ≤ 1048576) (hT : Dc.L w w.heap.size A ds) :
    Calls Tryd.prog 22 #[.slice A n c, .float .f32 q] w (RV (.int .i64 (codeL ds q)) w) := by
  have hv := Lib.hid (fun w hT => l07Line_any A n c ds w hl hn hT)
  have hf := Lib.hid (fun w => l07Fast_any q w)
  have HT := Lib.hid hT
  unfold codeL
  generalize okLine ds = t at *
  generalize psB q = u at *
  clear hl hT
  cases t
  · go_enter Tryd.func22, Tryd.ntmps22
    go_wp2_with (first | (go_at_call 33; refine (hv.out _ HT.out).mono ?_; rintro e w1 ⟨rfl, b1⟩))
    go_ret
    exact ⟨rfl, b1⟩
  · cases u
    all_goals
      go_enter Tryd.func22, Tryd.ntmps22
      go_wp2_with (first | (go_at_call 33; refine (hv.out _ HT.out).mono ?_; rintro e w1 ⟨rfl, b1⟩) | (go_at_call 34; refine (hf.out _).mono ?_; rintro e w1 ⟨rfl, rfl⟩))
      go_ret
      exact ⟨rfl, b1⟩
theorem isPlainSize_any (m : Nat) (w : World) : Calls Tryd.prog 19 #[.float .f32 m] w fun e w' => e = .returned (.bool (psB m)) ∧ w = w' := by
  unfold psB oGe oLe
  go_enter Tryd.func19, Tryd.ntmps19
  go_wp2
  · go_ret
    exact ⟨rfl, rfl⟩
  · rename_i h
    go_ret
    refine ⟨?_, rfl⟩
    simp at h
    simp [h]
end Go.Proofs.YtaodpopghacmaaaDoor
