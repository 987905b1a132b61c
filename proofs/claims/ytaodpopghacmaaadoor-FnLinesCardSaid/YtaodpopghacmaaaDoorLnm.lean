/-
  Lone speeds: the last twists; 'LoneSpeed' of both sides.
-/
import Derived.Test.YtaodpopghacmaaaDoorLnl
namespace Go.Proofs.YtaodpopghacmaaaDoor
open Go.RowKit Go.ChangeShapes Go.WideShapes Go.Deep
attribute [local go_sem ↓] Go.wp_at_zero Go.wp_at_succ
set_option linter.unusedVariables false
set_option linter.unusedSimpArgs false
set_option maxRecDepth 100000
set_option maxHeartbeats 1000000 in
theorem allSize_any (A : Option Addr) (n c : Nat) (fs : List Nat) (w : World) (hl : fs.length = n) (hn : n ≤ maxLen) {B0 : Nat} (hT : Fo w B0 A fs) :
    Calls Tryd.prog 24 #[.func (.func 19) #[] #[], .slice A n c] w fun e w' => e = .returned (.bool (fs.all psB)) ∧ w = w' := by
  unfold maxLen at hn
  have Hl := Lib.hid hl; clear hl
  have HT := Lib.hid hT; clear hT
  go_enter Tryd.func24, Tryd.ntmps24
  go_wp2
  go_loop [9] (fun i => ∃ k : Nat, k ≤ n ∧ i = .int .i64 k ∧ Hid ((fs.take k).all psB = true)) (fun i => n - (intOf i).toNat)
  case atStart => exact ⟨0, Nat.zero_le _, rfl, (by show _ = _; simp)⟩
  case round =>
    obtain ⟨k, hk, rfl, hp⟩ := hrel
    by_cases hlt : k < n
    · have hkl : k < fs.length := by have := Hl.out; omega
      obtain ⟨b, off, rfl, hbs, hc⟩ := HT.out (by omega)
      obtain ⟨f, hf⟩ : ∃ f, fs[k]? = some f := ⟨_, List.getElem?_eq_getElem hkl⟩
      have c0 := hc k f hf
      have hs : Hid ((fs.take (k + 1)).all psB = ((fs.take k).all psB && psB f)) := by
        show _ = _
        rw [List.take_add_one, hf, List.all_append]
        simp
      have hd : Hid (psB f = false → fs.all psB = false) := fun h => List.all_eq_false.2 ⟨f, List.mem_of_getElem? hf, by simp [h]⟩
      clear hc hkl hf
      rcases Bool.eq_false_or_eq_true (psB f) with hr | hr
      · have hs2 : Hid ((fs.take (k + 1)).all psB = true) := by show _ = _; rw [hs.out, hp.out, hr]; rfl
        clear hs hp hd
        go_wp2_with (go_at_call 19; refine (isPlainSize_any _ _).mono ?_; rintro e w1 ⟨rfl, rfl⟩)
        go_round
        case rel => exact ⟨k + 1, by omega, by go_num, hs2⟩
        case measure => simp [intOf]; omega
      · have hd2 := Lib.hid (hd.out hr)
        clear hs hp hd
        go_wp2_with (go_at_call 19; refine (isPlainSize_any _ _).mono ?_; rintro e w1 ⟨rfl, rfl⟩)
        go_ret
        exact ⟨by rw [hd2.out]; rfl, rfl⟩
    · obtain rfl : k = n := by omega
      go_wp2
      go_ret
      refine ⟨?_, rfl⟩
      have := hp.out
      rw [List.take_of_length_le (by have := Hl.out; omega)] at this
      rw [this]
      rfl
theorem allSize_is {t : Bool} {A : Option Addr} {n c : Nat} {fs : List Nat} {w : World} (ht : fs.all psB = t) (hl : fs.length = n) (hn : n ≤ maxLen) {B0 : Nat} (hT : Fo w B0 A fs) :
    Calls Tryd.prog 24 #[.func (.func 19) #[] #[], .slice A n c] w fun e w' => e = .returned (.bool t) ∧ w = w' := by
  subst ht
  exact allSize_any A n c fs w hl hn hT
theorem specLast_any (A : Option Addr) (n c : Nat) (ds : List Dc) (q : Nat) (w : World) (hl : ds.length = n) (h1n : 1 ≤ n) (hn : n ≤ 1048576) (hT : Dc.L w w.heap.size A ds) :
    Calls Tryd.prog 35 #[.slice A n c, .float .f32 q] w (RF (lst ds q) w) := by
  have Hl := Lib.hid hl; have HT := Lib.hid hT
  clear hl hT
  obtain ⟨m, rfl⟩ : ∃ m, n = m + 1 := ⟨n - 1, by omega⟩
  have u2 : IntKind.i64.wrap (m : Int) = (m : Int) := IntWalk.i64_in _ (by omega)
  have u3 : (m : Int) < (m : Int) + 1 := by omega
  go_enter Tryd.func35, Tryd.ntmps35
  go_wp2_with fail
  refine (specAnswer_any A (m + 1) c ds q _ Hl.out h1n hn HT.out).mono ?_
  rintro e w2 ⟨v, u, ss, ts, rfl, o1, o2, ap, hs, ht, b2⟩
  have hsl : ts.length = m + 1 := by have := congrArg List.length ht; simpa using this
  rw [hsl] at o2
  obtain ⟨g, cp, rfl, hg⟩ := row_form o2 (by omega)
  obtain ⟨x, hx⟩ : ∃ x, ts[m]? = some x := ⟨_, List.getElem?_eq_getElem (by omega)⟩
  have c0 : w2.cell? ⟨g, m, none⟩ = some (.float .f32 x) := (o2.cellAt m (by omega)).trans (by rw [List.getElem?_map, hx]; rfl)
  have Hx := Lib.hid (map_at ht hx); have B2 := Lib.hid b2
  clear o1 o2 ap hs ht b2 hg hsl hx
  go_wp2
  go_ret
  refine ⟨_, rfl, ?_, B2.out⟩
  show cn _ = _
  rw [Hx.out]
  unfold lst
  rw [Hl.out]
  rfl
theorem lastTwist_any (A : Option Addr) (n c : Nat) (ds : List Dc) (q : Nat) (w : World) (hl : ds.length = n) (h1n : 1 ≤ n) (hn : n ≤ 1048576) (hT : Dc.L w w.heap.size A ds) :
    Calls Tryd.prog 31 #[.slice A n c, .float .f32 q] w (RF (lst ds q) w) := by
  have Hl := Lib.hid hl; have HT := Lib.hid hT
  clear hl hT
  obtain ⟨m, rfl⟩ : ∃ m, n = m + 1 := ⟨n - 1, by omega⟩
  have u2 : IntKind.i64.wrap (m : Int) = (m : Int) := IntWalk.i64_in _ (by omega)
  have u3 : (m : Int) < (m : Int) + 1 := by omega
  go_enter Tryd.func31, Tryd.ntmps31
  go_wp2_with fail
  refine (answer_any A (m + 1) c ds q _ Hl.out hn HT.out).mono ?_
  rintro e w2 ⟨v, u, ss, ts, rfl, o1, o2, ap, hs, ht, b2⟩
  have hsl : ts.length = m + 1 := by have := congrArg List.length ht; simpa using this
  rw [hsl] at o2
  obtain ⟨g, cp, rfl, hg⟩ := row_form o2 (by omega)
  obtain ⟨x, hx⟩ : ∃ x, ts[m]? = some x := ⟨_, List.getElem?_eq_getElem (by omega)⟩
  have c0 : w2.cell? ⟨g, m, none⟩ = some (.float .f32 x) := (o2.cellAt m (by omega)).trans (by rw [List.getElem?_map, hx]; rfl)
  have Hx := Lib.hid (map_at ht hx); have B2 := Lib.hid b2
  clear o1 o2 ap hs ht b2 hg hsl hx
  go_wp2
  go_ret
  refine ⟨_, rfl, ?_, B2.out⟩
  show cn _ = _
  rw [Hx.out]
  unfold lst
  rw [Hl.out]
  rfl
theorem codeO_bad {ds : List Dc} (lo hi : Nat) (h : okLine ds = false) : codeO ds lo hi = 1 := by unfold codeO; rw [h]; rfl
theorem codeO_range {ds : List Dc} {lo hi : Nat} (h : okLine ds = true) (h2 : inR lo hi = false) : codeO ds lo hi = 2 := by unfold codeO; rw [h, h2]; rfl
theorem codeO_none {ds : List Dc} {lo hi : Nat} (h : okLine ds = true) (h2 : inR lo hi = true) (h3 : apB (lst ds lo) (lst ds hi) = false) : codeO ds lo hi = 6 := by unfold codeO; rw [h, h2, h3]; rfl
theorem codeO_ok {ds : List Dc} {lo hi : Nat} (h : okLine ds = true) (h2 : inR lo hi = true) (h3 : apB (lst ds lo) (lst ds hi) = true) : codeO ds lo hi = 0 := by unfold codeO; rw [h, h2, h3]; rfl
theorem loneC_ok {ds : List Dc} {lo hi : Nat} (h : codeO ds lo hi = 0) : loneC ds lo hi = (loneN ds (lst ds lo) 40 (cn lo, cn hi)).1 := by unfold loneC; rw [if_pos h]
theorem loneC_no {ds : List Dc} {lo hi : Nat} {K : Int} (h : codeO ds lo hi = K) (hK : K ≠ 0) : loneC ds lo hi = cn 0 := by unfold loneC; rw [h, if_neg hK]
/-- The result where there is none. -/
def RFCz (k : Int) (w : World) (e : Ending) (w' : World) : Prop := e = .returned (.tuple #[.float .f32 0, .int .i64 k]) ∧ Below w.heap.size w w'
theorem fo_two (w : World) (x y : Nat) : Fo (w.alloc (.cells #[.float .f32 x, .float .f32 y] 26)) (w.heap.size + 1) (some ⟨w.heap.size, 0, none⟩) [x, y] := fun _ => ⟨w.heap.size, 0, rfl, by omega, fun i f hf => by
  rw [Nat.zero_add, cell_of_row _ _ i _ _ _ (heap_alloc_new w _)]
  match i, hf with
  | 0, hf => simp at hf; subst hf; rfl
  | 1, hf => simp at hf; subst hf; rfl⟩
set_option maxHeartbeats 4000000 in
theorem implLone_err (A : Option Addr) (n c : Nat) (ds : List Dc) (lo hi : Nat) (K : Int) (w : World) (hE : EtAt w) (hl : ds.length = n) (hn : n ≤ 1048576) (hT : Dc.L w w.heap.size A ds) (hK : codeSh ds (inR lo hi) = K) (h0 : K ≠ 0) :
    Calls Tryd.prog 13 #[.slice A n c, .float .f32 lo, .float .f32 hi] w (RFCz K w) := by
  have hT1 : Dc.L (w.alloc (.cells #[.float .f32 lo, .float .f32 hi] 26)) (w.alloc (.cells #[.float .f32 lo, .float .f32 hi] 26)).heap.size A ds := hT.keep (b_alloc (Below.refl _ _) _)
  have hv := shaft_any A n c ds (inR lo hi) _ hl hn hT1
  rw [hK] at hv
  have hv2 : Calls Tryd.prog 18 #[.slice A n c, .bool (inR lo hi)] (w.alloc (.cells #[.float .f32 lo, .float .f32 hi] 26)) (RV (.tuple #[.slice none 0 0, .iface 67 (.int .i64 K)]) (w.alloc (.cells #[.float .f32 lo, .float .f32 hi] 26))) := by unfold shaftV at hv; rw [if_neg h0] at hv; exact hv
  have ha := allSize_any (some ⟨w.heap.size, 0, none⟩) 2 2 [lo, hi] (w.alloc (.cells #[.float .f32 lo, .float .f32 hi] 26)) rfl (by decide) (fo_two w lo hi)
  rw [show [lo, hi].all psB = (psB lo && psB hi) by simp] at ha
  rw [show inR lo hi = ((psB lo && psB hi) && oLt lo hi) by unfold inR; rw [Bool.and_assoc]] at hv2
  obtain ⟨t, ht⟩ : ∃ t, (psB lo && psB hi) = t := ⟨_, rfl⟩
  obtain ⟨l, hlt⟩ : ∃ l, oLt lo hi = l := ⟨_, rfl⟩
  rw [ht] at ha hv2
  rw [hlt] at hv2
  unfold oLt at hlt
  have HV := Lib.hid hv2; have HA := Lib.hid ha; have HE := Lib.hid hE
  have n1 := run_neq_iface_nil (P := Tryd.prog)
  have n2 := is_error
  clear hv hv2 ha hE hK hT hT1 ht hl
  cases t
  all_goals
    cases l
    all_goals
      go_enter Tryd.func13, Tryd.ntmps13
      go_wp2_with fail
      refine HA.out.mono ?_
      rintro e w1 ⟨rfl, rfl⟩
      go_wp2_with fail
      refine HV.out.mono ?_
      rintro e w2 ⟨rfl, b2⟩
      have B2 : Hid (Below w.heap.size w w2) := b_then (b_alloc (Below.refl _ _) _) b2
      have E2 := Lib.hid (EtAt.on HE.out (by rfl) B2.out)
      clear b2
      go_wp2_with fail
      refine (refusedCode_ok K _ E2.out).mono ?_
      rintro e w3 ⟨rfl, b3⟩
      have B3 : Hid (Below w.heap.size w w3) := b_then B2.out b3
      clear b3
      go_wp2
      go_ret2
      exact ⟨rfl, B3.out⟩
end Go.Proofs.YtaodpopghacmaaaDoor
