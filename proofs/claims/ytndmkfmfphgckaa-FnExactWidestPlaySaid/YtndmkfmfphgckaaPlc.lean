/-
  What adds up along a train: when plays are as told; the codes.
-/
import Derived.Test.YtndmkfmfphgckaaPlb
import Derived.Test.YtndmkfmfphgckaaAp
namespace Go.Proofs.Ytndmkfmfphgckaa
open Go.RowKit Go.ChangeShapes Go.WideShapes Go.Deep
attribute [local go_sem ↓] Go.wp_at_zero Go.wp_at_succ
set_option linter.unusedVariables false
set_option linter.unusedSimpArgs false
set_option maxRecDepth 100000
/-- Plays fs for n pairs. -/
def okPl (n : Nat) (fs : List Nat) : Bool := fs.all partB && decide (fs.length = n)
def allPl (n : Nat) (ls : List (List Nat)) : Bool := ls.all (okPl n)
def codeL (ps : List Px) (ls : List (List Nat)) : Int := if okTr ps then (if allPl ps.length ls then 0 else 2) else 1
set_option maxHeartbeats 1000000 in
theorem l06Plays_any (A A' : Option Addr) (n n' c c' : Nat) (fs : List Nat) (w : World) (hl' : fs.length = n') (hn : n ≤ 1048576) (hn' : n' ≤ 1048576) {B0 : Nat} (hT' : Fo w B0 A' fs) :
    Calls Try.prog 78 #[.slice A n c, .slice A' n' c'] w fun e w' => e = .returned (.bool (okPl n fs)) ∧ w = w' := by
  have Hl := Lib.hid hl'; clear hl'
  have HT := Lib.hid hT'; clear hT'
  unfold okPl
  rw [Hl.out]
  go_enter Try.func78, Try.ntmps78
  go_wp2
  go_loop [5] (fun i => ∃ k : Nat, k ≤ n' ∧ i = .int .i64 k ∧ Hid ((fs.take k).all partB = true)) (fun i => n' - (intOf i).toNat)
  case atStart => exact ⟨0, Nat.zero_le _, rfl, (by show _ = _; simp)⟩
  case round =>
    obtain ⟨k, hk, rfl, hp⟩ := hrel
    by_cases hlt : k < n'
    · have hkl : k < fs.length := by have := Hl.out; omega
      obtain ⟨b, off, rfl, hbs, hc⟩ := HT.out (by omega)
      obtain ⟨f, hf⟩ : ∃ f, fs[k]? = some f := ⟨_, List.getElem?_eq_getElem hkl⟩
      have c0 := hc k f hf
      have hs : Hid ((fs.take (k + 1)).all partB = ((fs.take k).all partB && partB f)) := by
        show _ = _
        rw [List.take_add_one, hf, List.all_append]
        simp
      have hd : Hid (partB f = false → fs.all partB = false) := fun h => List.all_eq_false.2 ⟨f, List.mem_of_getElem? hf, by simp [h]⟩
      clear hc hkl hf
      have hq := fun w => l01Part_any f w
      rcases Bool.eq_false_or_eq_true (partB f) with hr | hr
      · have hs2 : Hid ((fs.take (k + 1)).all partB = true) := by show _ = _; rw [hs.out, hp.out, hr]; rfl
        rw [hr] at hq
        have HQ := Lib.hid hq
        clear hs hp hd hq hr
        go_wp2_with (go_at_call 66; refine (HQ.out _).mono ?_; rintro e w1 ⟨rfl, rfl⟩)
        go_round
        case rel => exact ⟨k + 1, by omega, by go_num, hs2⟩
        case measure => simp [intOf]; omega
      · have hd2 := Lib.hid (hd.out hr)
        rw [hr] at hq
        have HQ := Lib.hid hq
        clear hs hp hd hq hr
        go_wp2_with (go_at_call 66; refine (HQ.out _).mono ?_; rintro e w1 ⟨rfl, rfl⟩)
        go_ret
        exact ⟨by rw [hd2.out]; rfl, rfl⟩
    · obtain rfl : k = n' := by omega
      have ht : Hid (fs.all partB = true) := by
        have := hp.out
        rwa [List.take_of_length_le (by have := Hl.out; omega)] at this
      by_cases he : k = n
      · subst he
        go_wp2
        go_ret
        refine ⟨by rw [ht.out]; simp, rfl⟩
      · have he1 : ¬ (k : Int) = (n : Int) := by omega
        have hd : decide (k = n) = false := by simpa using he
        have Hd := Lib.hid hd; clear hd he
        go_wp2
        go_ret
        refine ⟨by rw [ht.out, Hd.out]; simp [he1], rfl⟩
theorem l06Plays_is {t : Bool} {n : Nat} {fs : List Nat} (ht : okPl n fs = t) (A A' : Option Addr) (n' c c' : Nat) (w : World) (hl' : fs.length = n') (hn : n ≤ 1048576) (hn' : n' ≤ 1048576) {B0 : Nat} (hT' : Fo w B0 A' fs) :
    Calls Try.prog 78 #[.slice A n c, .slice A' n' c'] w fun e w' => e = .returned (.bool t) ∧ w = w' := by
  subst ht
  exact l06Plays_any A A' n n' c c' fs w hl' hn hn' hT'
theorem codeL_one {ps : List Px} {fs : List Nat} : codeL ps [fs] = if okTr ps then (if okPl ps.length fs then 0 else 2) else 1 := by
  unfold codeL allPl
  simp
theorem l06Asked_any (A A' : Option Addr) (n n' c c' : Nat) (ps : List Px) (fs : List Nat) (w : World) (hl : ps.length = n) (hl' : fs.length = n') (hn : n ≤ 1048576) (hn' : n' ≤ 1048576) (hT : Px.L w w.heap.size A ps) (hw : ∀ p ∈ ps, p.wf) {B0 : Nat} (hT' : Fo w B0 A' fs) :
    Calls Try.prog 69 #[.slice A n c, .slice A' n' c'] w fun e w' => e = .returned (.int .i64 (codeL ps [fs])) ∧ w = w' := by
  rw [codeL_one, hl]
  obtain ⟨t, ht⟩ : ∃ t, okTr ps = t := ⟨_, rfl⟩
  obtain ⟨u, hu⟩ : ∃ u, okPl n fs = u := ⟨_, rfl⟩
  have ho := l01Ok_any A n c ps w hl hn hT hw
  have hp := l06Plays_is hu A A' n' c c' w hl' hn hn' hT'
  rw [ht] at ho ⊢
  rw [hu]
  have HO := Lib.hid ho; have HP := Lib.hid hp
  clear ho hp hl hl' hT hT' hw ht hu
  cases t <;> cases u
  all_goals
    simp only [if_true, if_false, Bool.false_eq_true]
    go_enter Try.func69, Try.ntmps69
    go_wp2_with (first | (go_at_call 85; refine HO.out.mono ?_; rintro e w1 ⟨rfl, rfl⟩) | (go_at_call 78; refine HP.out.mono ?_; rintro e w1 ⟨rfl, rfl⟩))
    go_ret
    exact ⟨rfl, rfl⟩
structure Fv where
  A : Option Addr
  n : Nat
  c : Nat
  fs : List Nat
def Fv.ok (w : World) (B : Nat) (x : Fv) : Prop := x.fs.length = x.n ∧ x.n ≤ 1048576 ∧ Fo w B x.A x.fs
/-- The slice of slices at block b holds the ls. -/
def Fvs (w : World) (b : Nat) (ls : List Fv) : Prop := b < w.heap.size ∧ ∀ i x, ls[i]? = some x → w.cell? ⟨b, i, none⟩ = some (.slice x.A x.n x.c)
theorem Fo.under {w w' : World} {B : Nat} {A : Option Addr} {fs : List Nat} (h : Fo w B A fs) {B' : Nat} (hb : Below B' w w') (hB : B ≤ B') : Fo w' B A fs := fun h0 => by
  obtain ⟨b, off, e, h1, hc⟩ := h h0
  exact ⟨b, off, e, h1, fun i f hf => (World.cell?_of_block (a := ⟨b, off + i, none⟩) (hb.block b (Nat.lt_of_lt_of_le h1 hB))).trans (hc i f hf)⟩
set_option maxHeartbeats 2000000 in
theorem playsError_any (A : Option Addr) (n c : Nat) (ps : List Px) (b m cm : Nat) (ls : List Fv) (w : World) (hl : ps.length = n) (hm : ls.length = m) (hn : n ≤ 1048576) (hm2 : m ≤ 1000) (hT : Px.L w w.heap.size A ps) (hw : ∀ p ∈ ps, p.wf) (hL : Fvs w b ls) (hok : ∀ x ∈ ls, x.ok w w.heap.size) :
    Calls Try.prog 72 #[.slice A n c, .slice (some ⟨b, 0, none⟩) m cm] w (RV (.int .i64 (codeL ps (ls.map (·.fs)))) w) := by
  unfold codeL
  rw [hl]
  obtain ⟨t, ht⟩ : ∃ t, okTr ps = t := ⟨_, rfl⟩
  have hv := validTrain_any A n c ps w hl hn hT hw
  rw [ht] at hv ⊢
  have HV := Lib.hid hv; have HL := Lib.hid hL; have HK := Lib.hid hok; have Hm := Lib.hid hm
  clear hv hL hok hm hl hT hw ht
  cases t
  · simp only [if_false, Bool.false_eq_true]
    go_enter Try.func72, Try.ntmps72
    go_wp2_with (go_at_call 86; refine HV.out.mono ?_; rintro e w1 ⟨rfl, b1⟩)
    go_ret
    exact ⟨rfl, b1⟩
  · simp only [if_true]
    obtain ⟨K, hK⟩ : ∃ K : Int, (if allPl n (ls.map (·.fs)) then (0 : Int) else 2) = K := ⟨_, rfl⟩
    rw [hK]
    have K0 := Lib.hid (fun h : allPl n (ls.map (·.fs)) = true => show K = 0 by rw [← hK, h]; rfl)
    have K2 := Lib.hid (fun h : allPl n (ls.map (·.fs)) = false => show K = 2 by rw [← hK, h]; rfl)
    clear hK
    go_enter Try.func72, Try.ntmps72
    go_wp2_with (go_at_call 86; refine HV.out.mono ?_; rintro e w1 ⟨rfl, b1⟩; have B1 := Lib.hid b1; clear b1)
    clear HV
    go_loop [6, 12] (fun s6 i => ∃ k : Nat, k ≤ m ∧ i = .int .i64 k ∧ Hid (allPl n ((ls.take k).map (·.fs)) = true)) (fun _ i => m - (intOf i).toNat)
    case atStart => exact ⟨0, Nat.zero_le _, rfl, (by show _ = _; unfold allPl; simp)⟩
    case round =>
      obtain ⟨k, hk, rfl, hp⟩ := hrel
      by_cases hlt : k < m
      · have hkl : k < ls.length := by have := Hm.out; omega
        obtain ⟨x, hx⟩ : ∃ x, ls[k]? = some x := ⟨_, List.getElem?_eq_getElem hkl⟩
        obtain ⟨hb1, hcc⟩ := HL.out
        have c0 := (World.cell?_of_block (a := ⟨b, k, none⟩) (B1.out.block b hb1)).trans (hcc k x hx)
        obtain ⟨x1, x2, x3⟩ := HK.out x (List.mem_of_getElem? hx)
        have hs : Hid (allPl n ((ls.take (k + 1)).map (·.fs)) = (allPl n ((ls.take k).map (·.fs)) && okPl n x.fs)) := by
          show _ = _
          unfold allPl
          rw [List.take_add_one, hx, List.map_append, List.all_append]
          simp
        have hd : Hid (okPl n x.fs = false → allPl n (ls.map (·.fs)) = false) := fun h => by unfold allPl; exact List.all_eq_false.2 ⟨x.fs, List.mem_map.2 ⟨x, List.mem_of_getElem? hx, rfl⟩, by simp [h]⟩
        obtain ⟨u, hu⟩ : ∃ u, x.fs.all partB = u := ⟨_, rfl⟩
        have ha := fun c' => allPart_is (c := c') hu x1 (by unfold maxLen; omega) (x3.under B1.out (Nat.le_refl _))
        have HA := Lib.hid ha
        have X1 := Lib.hid x1
        clear hcc hkl hx x1 x3 ha hb1
        obtain ⟨xA, xn, xc, xfs⟩ := x
        dsimp only at hu HA c0 X1 x2 hs hd
        by_cases he : xn = n
        · have hok2 : okPl n xfs = u := by unfold okPl; rw [X1.out, hu]; simp [he]
          rw [hok2] at hs hd
          have hs3 := Lib.hid hs.out; have hd3 := Lib.hid hd.out
          subst he
          clear hok2 hu hs hd
          cases u
          · have hd2 := Lib.hid (hd3.out rfl)
            clear hs3 hp hd3
            go_wp2_with (go_at_call 55; refine (HA.out _).mono ?_; rintro e w2 ⟨rfl, rfl⟩)
            go_ret
            exact ⟨by rw [K2.out hd2.out]; rfl, B1.out⟩
          · have hs2 : Hid (allPl xn ((ls.take (k + 1)).map (·.fs)) = true) := by show _ = _; rw [hs3.out, hp.out]; rfl
            clear hs3 hp hd3
            go_wp2_with (go_at_call 55; refine (HA.out _).mono ?_; rintro e w2 ⟨rfl, rfl⟩)
            go_round
            case rel => exact ⟨k + 1, by omega, by go_num, hs2⟩
            case measure => simp [intOf]; omega
        · have hok2 : okPl n xfs = false := by unfold okPl; rw [X1.out]; simp [he]
          have hd2 := Lib.hid (hd.out hok2)
          have he1 : ¬ (xn : Int) = (n : Int) := by omega
          clear hok2 hd hs hp HA hu he
          go_wp2
          go_ret
          exact ⟨by rw [K2.out hd2.out]; rfl, B1.out⟩
      · obtain rfl : k = m := by omega
        have hz : Hid (allPl n (ls.map (·.fs)) = true) := by
          have := hp.out
          rwa [List.take_of_length_le (by have := Hm.out; omega)] at this
        go_wp2
        go_ret
        exact ⟨by rw [K0.out hz.out]; rfl, B1.out⟩
end Go.Proofs.Ytndmkfmfphgckaa
