/-
  The codes of a train with teeth; the plays of teeth: both sides.
-/
import Derived.Test.YtndmkfmfphgckabToothS
import Derived.Test.YtndmkfmfphgckabPla
import Derived.Deep.RegionLaw
import Derived.Deep.AppendLies
namespace Go.Proofs.Ytndmkfmfphgckab
open Go.RowKit Go.ChangeShapes Go.WideShapes Go.Deep
attribute [local go_sem ↓] Go.wp_at_zero Go.wp_at_succ
set_option linter.unusedVariables false
set_option linter.unusedSimpArgs false
set_option maxRecDepth 100000
def allTh (ts : List Th) : Bool := ts.all okT
def codeTe (ps : List Px) (ts : List Th) (fine : Bool) : Int := if okTr ps && allTh ts then (if fine then (if ts.length = ps.length then 0 else 4) else 2) else 1
theorem allTh_take {ts : List Th} {k : Nat} {X : Th} (h : ts[k]? = some X) : allTh (ts.take (k + 1)) = (allTh (ts.take k) && okT X) := by
  unfold allTh
  rw [List.take_add_one, h, List.all_append]
  simp
theorem allTh_bad {ts : List Th} {k : Nat} {X : Th} (h : ts[k]? = some X) (hx : okT X = false) : allTh ts = false := List.all_eq_false.2 ⟨X, List.mem_of_getElem? h, by simp [hx]⟩
theorem allTh_at {ts : List Th} {k : Nat} {X : Th} (ha : allTh ts = true) (h : ts[k]? = some X) : okT X = true := List.all_eq_true.1 ha X (List.mem_of_getElem? h)
theorem codeTe_cases {ps : List Px} {ts : List Th} {b : Bool} {K : Int} (h : codeTe ps ts b = K) : K = 0 ∨ K = 1 ∨ K = 2 ∨ K = 4 := by
  subst h
  unfold codeTe
  split
  · split
    · split <;> simp
    · simp
  · simp
theorem codeTe_zero {ps : List Px} {ts : List Th} {b : Bool} (h : codeTe ps ts b = 0) : okTr ps = true ∧ allTh ts = true ∧ b = true ∧ ts.length = ps.length := by
  unfold codeTe at h
  cases h1 : okTr ps <;> cases h2 : allTh ts <;> cases b <;> simp_all
theorem wf_i8 {s : Int} (h : -128 ≤ s ∧ s ≤ 127) : (Lit.int .i8 s).wf = true := by simpa [Lit.wf, IntKind.min, IntKind.max, IntKind.signed, IntKind.bits] using h
set_option maxHeartbeats 2000000 in
theorem l06Teeth_any (A A' : Option Addr) (n n' c c' : Nat) (ps : List Px) (ts : List Th) (fine : Bool) (w : World) (hl : ps.length = n) (hl' : ts.length = n') (hn : n ≤ 1048576) (hn' : n' ≤ 1048576) (hT : Px.L w w.heap.size A ps) (hw : ∀ p ∈ ps, p.wf) (hT' : Th.L w w.heap.size A' ts) (hw' : ∀ p ∈ ts, p.wf) :
    Calls Try.prog 17 #[.slice A n c, .slice A' n' c', .bool fine] w (RV (.int .i64 (codeTe ps ts fine)) w) := by
  obtain ⟨K, hK⟩ : ∃ K, codeTe ps ts fine = K := ⟨_, rfl⟩
  obtain ⟨t, ht⟩ : ∃ t, okTr ps = t := ⟨_, rfl⟩
  have ho := l01Ok_any A n c ps w hl hn hT hw
  rw [ht] at ho
  rw [hK]
  unfold codeTe at hK
  rw [ht, hl, hl'] at hK
  have F1 := Lib.hid (fun h : t = false => show K = 1 by rw [← hK, h]; rfl)
  have F2 := Lib.hid (fun (h : t = true) (h2 : allTh ts = false) => show K = 1 by rw [← hK, h, h2]; rfl)
  have F3 := Lib.hid (fun (h : t = true) (h2 : allTh ts = true) => show K = (if fine then (if n' = n then (0 : Int) else 4) else 2) by rw [← hK, h, h2]; rfl)
  have HO := Lib.hid ho; have Hl' := Lib.hid hl'; have HT' := Lib.hid hT'; have HW := Lib.hid hw'
  clear ho hl hl' hT hT' hw hw' ht hK
  cases t
  · have E1 := Lib.hid (F1.out (by trivial))
    go_enter Try.func17, Try.ntmps17
    go_wp2_with (go_at_call 25; refine HO.out.mono ?_; rintro e w1 ⟨rfl, rfl⟩)
    go_ret
    exact ⟨by rw [E1.out]; rfl, Below.refl _ _⟩
  · go_enter Try.func17, Try.ntmps17
    go_wp2_with (go_at_call 25; refine HO.out.mono ?_; rintro e w1 ⟨rfl, rfl⟩)
    go_loopw [7] (fun i wr => ∃ k : Nat, k ≤ n' ∧ i = .int .i64 k ∧ Hid (allTh (ts.take k) = true) ∧ Hid (Below w.heap.size w wr)) (fun i _ => n' - (intOf i).toNat)
    case atStart => exact ⟨0, Nat.zero_le _, rfl, by show _ = _; simp [allTh], Below.refl _ _⟩
    case round =>
      obtain ⟨k, hk, rfl, hp, hb⟩ := hrel
      by_cases hlt : k < n'
      · have hkl : k < ts.length := by have := Hl'.out; omega
        obtain ⟨b, off, rfl, hbs, hc⟩ := HT'.out (by omega)
        obtain ⟨X, hX⟩ : ∃ X, ts[k]? = some X := ⟨_, List.getElem?_eq_getElem hkl⟩
        obtain ⟨c0, c1, c2, c3⟩ := Th.at (rangeAt_of_block (hc k X hX) (hb.out.block b hbs))
        obtain ⟨u, hu⟩ : ∃ u, okT X = u := ⟨_, rfl⟩
        have hv := Lib.hid (fun w => l06Ok_is hu (wf_i8 (HW.out X (List.mem_of_getElem? hX)).2.2.2) w)
        have hs := allTh_take hX
        rw [hu, hp.out, Bool.true_and] at hs
        have Hs := Lib.hid hs
        have Hd := Lib.hid (fun h : u = false => allTh_bad hX (hu.trans h))
        clear hc hkl hX hs hu
        cases u
        · have E1 := Lib.hid (F2.out (by trivial) (Hd.out (by trivial)))
          go_wp2_with (go_at_call 26; refine (hv.out _).mono ?_; rintro e w1 ⟨rfl, b1⟩)
          go_ret
          exact ⟨by rw [E1.out]; rfl, b_then hb.out b1⟩
        · go_wp2_with (go_at_call 26; refine (hv.out _).mono ?_; rintro e w1 ⟨rfl, b1⟩; have B1 : Hid (Below w.heap.size w w1) := b_then hb.out b1; clear b1)
          go_roundw
          case rel => exact ⟨k + 1, by omega, by go_num, Hs, B1⟩
          case measure => simp [intOf]; omega
      · obtain rfl : k = n' := by omega
        have ha : allTh ts = true := by have := hp.out; rwa [List.take_of_length_le (by have := Hl'.out; omega)] at this
        have e3 := F3.out (by trivial) ha
        by_cases he : k = n
        · have E0 : Hid (K = if fine then 0 else 2) := by show _ = _; rw [e3, if_pos he]
          subst he
          clear e3 ha
          cases fine
          · have E2 : Hid (K = 2) := E0.out
            go_wp2
            go_ret
            exact ⟨by rw [E2.out]; rfl, hb.out⟩
          · have E2 : Hid (K = 0) := E0.out
            go_wp2
            go_ret
            exact ⟨by rw [E2.out]; rfl, hb.out⟩
        · have E0 : Hid (K = if fine then 4 else 2) := by show _ = _; rw [e3, if_neg he]
          have he1 : ¬ (k : Int) = (n : Int) := by omega
          clear e3 ha he
          cases fine
          · have E2 : Hid (K = 2) := E0.out
            go_wp2
            go_ret
            exact ⟨by rw [E2.out]; rfl, hb.out⟩
          · have E2 : Hid (K = 4) := E0.out
            go_wp2
            go_ret
            exact ⟨by rw [E2.out]; rfl, hb.out⟩
set_option maxHeartbeats 2000000 in
theorem teethError_any (A A' : Option Addr) (n n' c c' : Nat) (ps : List Px) (ts : List Th) (fine : Bool) (w : World) (hl : ps.length = n) (hl' : ts.length = n') (hn : n ≤ 1048576) (hn' : n' ≤ 1048576) (hT : Px.L w w.heap.size A ps) (hw : ∀ p ∈ ps, p.wf) (hT' : Th.L w w.heap.size A' ts) :
    Calls Try.prog 20 #[.slice A n c, .slice A' n' c', .bool fine] w (RV (.int .i64 (codeTe ps ts fine)) w) := by
  obtain ⟨K, hK⟩ : ∃ K, codeTe ps ts fine = K := ⟨_, rfl⟩
  obtain ⟨t, ht⟩ : ∃ t, okTr ps = t := ⟨_, rfl⟩
  rw [hK]
  unfold codeTe at hK
  rw [ht, hl, hl'] at hK
  have F1 := Lib.hid (fun h : t = false => show K = 1 by rw [← hK, h]; rfl)
  have F2 := Lib.hid (fun (h2 : allTh ts = false) => show K = 1 by rw [← hK, h2]; cases t <;> rfl)
  have F3 := Lib.hid (fun (h : t = true) (h2 : allTh ts = true) => show K = (if fine then (if n' = n then (0 : Int) else 4) else 2) by rw [← hK, h, h2]; rfl)
  have HT := Lib.hid hT; have Hw := Lib.hid hw; have Hl := Lib.hid hl; have Ht := Lib.hid ht
  have Hl' := Lib.hid hl'; have HT' := Lib.hid hT'
  clear hl hl' hT hT' hw ht hK
  go_enter Try.func20, Try.ntmps20
  go_wp2
  go_loopw [8, 11] (fun v8 i wr => ∃ k : Nat, k ≤ n' ∧ i = .int .i64 k ∧ Hid (allTh (ts.take k) = true) ∧ Hid (Below w.heap.size w wr)) (fun _ i _ => n' - (intOf i).toNat)
  case atStart => exact ⟨0, Nat.zero_le _, rfl, by show _ = _; simp [allTh], Below.refl _ _⟩
  case round =>
    obtain ⟨k, hk, rfl, hp, hb⟩ := hrel
    by_cases hlt : k < n'
    · have hkl : k < ts.length := by have := Hl'.out; omega
      obtain ⟨b, off, rfl, hbs, hc⟩ := HT'.out (by omega)
      obtain ⟨X, hX⟩ : ∃ X, ts[k]? = some X := ⟨_, List.getElem?_eq_getElem hkl⟩
      obtain ⟨c0, c1, c2, c3⟩ := Th.at (rangeAt_of_block (hc k X hX) (hb.out.block b hbs))
      obtain ⟨u, hu⟩ : ∃ u, okT X = u := ⟨_, rfl⟩
      have hv := Lib.hid (fun w => validTooth_is hu w)
      have hs := allTh_take hX
      rw [hu, hp.out, Bool.true_and] at hs
      have Hs := Lib.hid hs
      have Hd := Lib.hid (fun h : u = false => allTh_bad hX (hu.trans h))
      clear hc hkl hX hs hu
      cases u
      · have E1 := Lib.hid (F2.out (Hd.out (by trivial)))
        go_wp2_with (go_at_call 28; refine (hv.out _).mono ?_; rintro e w1 ⟨rfl, b1⟩)
        go_ret
        exact ⟨by rw [E1.out]; rfl, b_then (b_alloc hb.out _) b1⟩
      · go_wp2_with (go_at_call 28; refine (hv.out _).mono ?_; rintro e w1 ⟨rfl, b1⟩; have B1 : Hid (Below w.heap.size w w1) := b_then (b_alloc hb.out _) b1; clear b1)
        go_roundw
        case rel => exact ⟨k + 1, by omega, by go_num, Hs, B1⟩
        case measure => simp [intOf]; omega
    · obtain rfl : k = n' := by omega
      have ha : allTh ts = true := by have := hp.out; rwa [List.take_of_length_le (by have := Hl'.out; omega)] at this
      have hv := validTrain_any A n c ps wr Hl.out hn (HT.out.keep hb.out) Hw.out
      rw [Ht.out] at hv
      have HV := Lib.hid hv
      clear hv
      cases t
      · have E1 := Lib.hid (F1.out (by trivial))
        clear ha
        go_wp2_with (go_at_call 29; refine HV.out.mono ?_; rintro e w1 ⟨rfl, b1⟩)
        go_ret
        exact ⟨by rw [E1.out]; rfl, b_then hb.out b1⟩
      · have e3 := F3.out (by trivial) ha
        by_cases he : k = n
        · have E0 : Hid (K = if fine then 0 else 2) := by show _ = _; rw [e3, if_pos he]
          subst he
          clear e3 ha
          cases fine
          all_goals
            first | (have E2 : Hid (K = 2) := E0.out) | (have E2 : Hid (K = 0) := E0.out)
            go_wp2_with (go_at_call 29; refine HV.out.mono ?_; rintro e w1 ⟨rfl, b1⟩)
            go_ret
            exact ⟨by rw [E2.out]; rfl, b_then hb.out b1⟩
        · have E0 : Hid (K = if fine then 4 else 2) := by show _ = _; rw [e3, if_neg he]
          have he1 : ¬ (k : Int) = (n : Int) := by omega
          clear e3 ha he
          cases fine
          all_goals
            first | (have E2 : Hid (K = 2) := E0.out) | (have E2 : Hid (K = 4) := E0.out)
            go_wp2_with (go_at_call 29; refine HV.out.mono ?_; rintro e w1 ⟨rfl, b1⟩)
            go_ret
            exact ⟨by rw [E2.out]; rfl, b_then hb.out b1⟩
end Go.Proofs.Ytndmkfmfphgckab
