/-
  When a train is valid: the walks of the program's own function and of the model's.
-/
import Derived.Test.YtkkcihgnpephiaaDoorUEqual
import Derived.Laws.EntriesVeiled
namespace Go.Proofs.YtkkcihgnpephiaaDoor
open Go.RowKit Go.ChangeShapes Go.WideShapes Go.Deep
set_option linter.unusedVariables false
set_option linter.unusedSimpArgs false
def teethB (x : Int) : Bool := decide (6 ≤ x) && decide (x ≤ 200)
def partB (l : Nat) : Bool := (FloatKind.f32.format.order l 0 == some .gt || FloatKind.f32.format.order l 0 == some .eq) && (FloatKind.f32.format.order l 1065353216 == some .lt || FloatKind.f32.format.order l 1065353216 == some .eq)
theorem areTeeth_any (x : Int) (w : World) : Calls Tryd.prog 114 #[.int .i64 x] w fun e w' => e = .returned (.bool (teethB x)) ∧ w = w' := by
  unfold teethB
  by_cases h1 : 6 ≤ x <;> by_cases h2 : x ≤ 200 <;> simp only [h1, h2, decide_true, decide_false, Bool.and_true, Bool.and_false, Bool.true_and, Bool.false_and]
  all_goals
    go_enter Tryd.func114, Tryd.ntmps114
    go_wp2
    all_goals
      go_ret
      first | exact ⟨rfl, rfl⟩ | (simp; omega)
theorem l01Teeth_any (x : Int) (w : World) : Calls Tryd.prog 71 #[.int .i64 x] w fun e w' => e = .returned (.bool (teethB x)) ∧ w = w' := by
  unfold teethB
  by_cases h1 : 6 ≤ x <;> by_cases h2 : x ≤ 200 <;> simp only [h1, h2, decide_true, decide_false, Bool.and_true, Bool.and_false, Bool.true_and, Bool.false_and]
  all_goals
    go_enter Tryd.func71, Tryd.ntmps71
    go_wp2
    all_goals
      go_ret
      first | exact ⟨rfl, rfl⟩ | (simp; omega)
theorem isPart_any (l : Nat) (w : World) : Calls Tryd.prog 113 #[.float .f32 l] w fun e w' => e = .returned (.bool (partB l)) ∧ w = w' := by
  unfold partB
  go_enter Tryd.func113, Tryd.ntmps113
  go_wp2
  · go_ret
    exact ⟨rfl, rfl⟩
  · rename_i h
    go_ret
    refine ⟨?_, rfl⟩
    simp at h
    simp [h]
theorem l01Part_any (l : Nat) (w : World) : Calls Tryd.prog 104 #[.float .f32 l] w fun e w' => e = .returned (.bool (partB l)) ∧ w = w' := by
  unfold partB
  go_enter Tryd.func104, Tryd.ntmps104
  go_wp2
  · go_ret
    exact ⟨rfl, rfl⟩
  · rename_i h
    go_ret
    refine ⟨?_, rfl⟩
    simp at h
    simp [h]
theorem all_false_of {ps : List Px} {k : Nat} {p : Px} {f : Px → Bool} (hp : ps[k]? = some p) (h : f p = false) : ps.all f = false := by
  rw [List.all_eq_false]
  exact ⟨p, List.mem_of_getElem? hp, by rw [h]; exact Bool.false_ne_true⟩
theorem all_take_succ {ps : List Px} {k : Nat} {p : Px} {f : Px → Bool} (hp : ps[k]? = some p) (h : f p = true) (ht : (ps.take k).all f = true) : (ps.take (k + 1)).all f = true := by
  obtain ⟨hk, e⟩ := List.getElem?_eq_some_iff.1 hp
  rw [List.take_succ_eq_append_getElem hk, List.all_append, ht, e]
  simp [h]
def teethP (p : Px) : Bool := teethB p.a && teethB p.b
def partP (p : Px) : Bool := partB p.l
def okP (p : Px) : Bool := teethP p && partP p
set_option maxRecDepth 100000 in
theorem hasTeeth_any (A : Option Addr) (n c : Nat) (ps : List Px) (w : World) (hl : ps.length = n) (hn : n ≤ 1048576) (hT : Px.L w w.heap.size A ps) (hw : ∀ p ∈ ps, p.wf) :
    Calls Tryd.prog 134 #[.slice A n c] w fun e w' => e = .returned (.bool (ps.all teethP)) ∧ Below w.heap.size w w' := by
  have Hl := Lib.hid hl; clear hl
  have HT := Lib.hid hT; clear hT
  have Hw := Lib.hid hw; clear hw
  go_enter Tryd.func134, Tryd.ntmps134
  go_wp2
  go_loopw [7] (fun i wr => ∃ k : Nat, k ≤ n ∧ i = .int .i64 k ∧ (ps.take k).all teethP = true ∧ Below w.heap.size w wr) (fun i _ => n - (intOf i).toNat)
  case atStart => exact ⟨0, Nat.zero_le _, rfl, by simp, Below.refl _ _⟩
  case round =>
    obtain ⟨k, hk, rfl, ht, hb⟩ := hrel
    have Hb := Lib.hid hb; clear hb
    have Ht := Lib.hid ht; clear ht
    by_cases hlt : k < n
    · have hkl : k < ps.length := by have := Hl.out; omega
      obtain ⟨b, off, rfl, hbs, hc⟩ := HT.out (by omega)
      obtain ⟨p, hp⟩ : ∃ p, ps[k]? = some p := ⟨_, List.getElem?_eq_getElem hkl⟩
      obtain ⟨⟨wa1, wa2⟩, ⟨wb1, wb2⟩, _⟩ := Hw.out p (List.mem_of_getElem? hp)
      obtain ⟨c0, c1, c2⟩ := cells3 (rangeAt_of_block (hc k p hp) (Hb.out.block b hbs))
      clear hc hkl
      have Hp := Lib.hid hp; clear hp
      cases ha : teethB p.a
      · go_wp2_with (go_at_call 114; refine (areTeeth_any _ _).mono ?_; rintro e w' ⟨rfl, rfl⟩)
        go_ret
        refine ⟨?_, Hb.out.alloc Hb.out.size _⟩
        rw [all_false_of Hp.out (by unfold teethP; rw [ha]; rfl)]
        rfl
      · cases hb : teethB p.b
        · go_wp2_with (go_at_call 114; refine (areTeeth_any _ _).mono ?_; rintro e w' ⟨rfl, rfl⟩)
          go_ret
          refine ⟨?_, Hb.out.alloc Hb.out.size _⟩
          rw [all_false_of Hp.out (by unfold teethP; rw [ha, hb]; rfl)]
          rfl
        · go_wp2_with (go_at_call 114; refine (areTeeth_any _ _).mono ?_; rintro e w' ⟨rfl, rfl⟩)
          have Hall : (ps.take (k + 1)).all teethP = true := all_take_succ Hp.out (by unfold teethP; rw [ha, hb]; rfl) Ht.out
          go_roundw
          case rel => exact ⟨k + 1, by omega, by go_num, Hall, Hb.out.alloc Hb.out.size _⟩
          case measure => simp [intOf]; omega
    · have hkn : k = n := by omega
      subst hkn
      go_wp2
      go_ret
      have h2 := Ht.out
      rw [List.take_of_length_le (by have := Hl.out; omega)] at h2
      exact ⟨by rw [h2]; rfl, Hb.out⟩
set_option maxRecDepth 100000 in
theorem hasParts_any (A : Option Addr) (n c : Nat) (ps : List Px) (w : World) (hl : ps.length = n) (hn : n ≤ 1048576) (hT : Px.L w w.heap.size A ps) :
    Calls Tryd.prog 135 #[.slice A n c] w fun e w' => e = .returned (.bool (ps.all partP)) ∧ Below w.heap.size w w' := by
  have Hl := Lib.hid hl; clear hl
  have HT := Lib.hid hT; clear hT
  go_enter Tryd.func135, Tryd.ntmps135
  go_wp2
  go_loopw [7] (fun i wr => ∃ k : Nat, k ≤ n ∧ i = .int .i64 k ∧ (ps.take k).all partP = true ∧ Below w.heap.size w wr) (fun i _ => n - (intOf i).toNat)
  case atStart => exact ⟨0, Nat.zero_le _, rfl, by simp, Below.refl _ _⟩
  case round =>
    obtain ⟨k, hk, rfl, ht, hb⟩ := hrel
    have Hb := Lib.hid hb; clear hb
    have Ht := Lib.hid ht; clear ht
    by_cases hlt : k < n
    · have hkl : k < ps.length := by have := Hl.out; omega
      obtain ⟨b, off, rfl, hbs, hc⟩ := HT.out (by omega)
      obtain ⟨p, hp⟩ : ∃ p, ps[k]? = some p := ⟨_, List.getElem?_eq_getElem hkl⟩
      obtain ⟨c0, c1, c2⟩ := cells3 (rangeAt_of_block (hc k p hp) (Hb.out.block b hbs))
      clear hc hkl
      have Hp := Lib.hid hp; clear hp
      cases ha : partB p.l
      · go_wp2_with (go_at_call 113; refine (isPart_any _ _).mono ?_; rintro e w' ⟨rfl, rfl⟩)
        go_ret
        refine ⟨?_, Hb.out.alloc Hb.out.size _⟩
        rw [all_false_of Hp.out (by unfold partP; exact ha)]
        rfl
      · go_wp2_with (go_at_call 113; refine (isPart_any _ _).mono ?_; rintro e w' ⟨rfl, rfl⟩)
        have Hall : (ps.take (k + 1)).all partP = true := all_take_succ Hp.out (by unfold partP; exact ha) Ht.out
        go_roundw
        case rel => exact ⟨k + 1, by omega, by go_num, Hall, Hb.out.alloc Hb.out.size _⟩
        case measure => simp [intOf]; omega
    · have hkn : k = n := by omega
      subst hkn
      go_wp2
      go_ret
      have h2 := Ht.out
      rw [List.take_of_length_le (by have := Hl.out; omega)] at h2
      exact ⟨by rw [h2]; rfl, Hb.out⟩
def sizeB (n : Nat) : Bool := decide (1 ≤ n) && decide (n ≤ 8)
theorem hasPairs_any (A : Option Addr) (n c : Nat) (w : World) (hn : n ≤ 1048576) :
    Calls Tryd.prog 133 #[.slice A n c] w fun e w' => e = .returned (.bool (sizeB n)) ∧ w = w' := by
  unfold sizeB
  by_cases h1 : 1 ≤ n <;> by_cases h2 : n ≤ 8 <;> simp only [h1, h2, decide_true, decide_false, Bool.and_true, Bool.and_false, Bool.true_and, Bool.false_and]
  all_goals
    go_enter Tryd.func133, Tryd.ntmps133
    go_wp2
    all_goals
      go_ret
      first | exact ⟨rfl, rfl⟩ | (simp; omega)
def okTr (ps : List Px) : Bool := sizeB ps.length && ps.all okP
theorem okTr_iff (ps : List Px) : okTr ps = (sizeB ps.length && (ps.all teethP && ps.all partP)) := by
  unfold okTr
  congr 1
  have : okP = fun p => teethP p && partP p := rfl
  rw [this]
  induction ps with
  | nil => rfl
  | cons p ps ih =>
    simp only [List.all_cons, ih]
    cases teethP p <;> cases partP p <;> cases ps.all teethP <;> cases ps.all partP <;> rfl
theorem rules_any (w : World) : Calls Tryd.prog 106 #[] w fun e w' => e = .returned (.agg #[.func (.func 133) #[] #[], .func (.func 134) #[] #[], .func (.func 135) #[] #[]]) ∧ Below w.heap.size w w' := by
  have hbd : ∀ w, (Instr.build 139 #[(0, .func (.func 133) #[] #[]), (1, .func (.func 134) #[] #[]), (2, .func (.func 135) #[] #[])]).run Tryd.prog w = .ok (.agg #[.func (.func 133) #[] #[], .func (.func 134) #[] #[], .func (.func 135) #[] #[]]) w := fun w => run_build w 139 _ _ (by kernel_rfl)
  go_enter Tryd.func106, Tryd.ntmps106
  go_wp2
  refine bodyPost_ret (v := .agg #[.func (.func 133) #[] #[], .func (.func 134) #[] #[], .func (.func 135) #[] #[]]) (by simp [results, Tryd.results106, go_sem]) rfl ⟨rfl, ?_⟩
  exact (Below.refl _ _).alloc (Nat.le_refl _) _
set_option maxRecDepth 100000 in
theorem validTrain_any (A : Option Addr) (n c : Nat) (ps : List Px) (w : World) (hl : ps.length = n) (hn : n ≤ 1048576) (hT : Px.L w w.heap.size A ps) (hw : ∀ p ∈ ps, p.wf) :
    Calls Tryd.prog 65 #[.slice A n c] w fun e w' => e = .returned (.bool (okTr ps)) ∧ Below w.heap.size w w' := by
  rw [okTr_iff, hl]
  have i0 : ∀ w, (Instr.index 139 (.agg #[.func (.func 133) #[] #[], .func (.func 134) #[] #[], .func (.func 135) #[] #[]]) (.int .i64 0)).run Tryd.prog w = .ok (.func (.func 133) #[] #[]) w := fun _ => by kernel_rfl
  have i1 : ∀ w, (Instr.index 139 (.agg #[.func (.func 133) #[] #[], .func (.func 134) #[] #[], .func (.func 135) #[] #[]]) (.int .i64 1)).run Tryd.prog w = .ok (.func (.func 134) #[] #[]) w := fun _ => by kernel_rfl
  have i2 : ∀ w, (Instr.index 139 (.agg #[.func (.func 133) #[] #[], .func (.func 134) #[] #[], .func (.func 135) #[] #[]]) (.int .i64 2)).run Tryd.prog w = .ok (.func (.func 135) #[] #[]) w := fun _ => by kernel_rfl
  have Hl := Lib.hid hl; clear hl
  have HT := Lib.hid hT; clear hT
  have Hw := Lib.hid hw; clear hw
  go_enter Tryd.func65, Tryd.ntmps65
  go_wp2_with (go_at_call 106; refine (rules_any _).mono ?_; rintro e w1 ⟨rfl, hb1⟩; have Hb1 := Lib.hid hb1; clear hb1)
  go_loopw [6] (fun i wr => ∃ k : Nat, k ≤ 3 ∧ i = .int .i64 k ∧ Below w.heap.size w wr ∧ (1 ≤ k → sizeB n = true) ∧ (2 ≤ k → ps.all teethP = true) ∧ (3 ≤ k → ps.all partP = true)) (fun i _ => 3 - (intOf i).toNat)
  case atStart => exact ⟨0, by omega, rfl, Hb1.out, fun h => absurd h (by omega), fun h => absurd h (by omega), fun h => absurd h (by omega)⟩
  case round =>
    obtain ⟨k, hk, rfl, hb, r1, r2, r3⟩ := hrel
    have Hb := Lib.hid hb; clear hb
    have H1 := Lib.hid r1; clear r1
    have H2 := Lib.hid r2; clear r2
    have H3 := Lib.hid r3; clear r3
    rcases (by omega : k = 0 ∨ k = 1 ∨ k = 2 ∨ k = 3) with rfl | rfl | rfl | rfl
    · cases hs : sizeB n
      · go_wp2_with (go_at_call 133; refine (hasPairs_any _ _ _ _ hn).mono ?_; rintro e w2 ⟨rfl, rfl⟩)
        go_ret
        exact ⟨(by show Ending.returned (.bool false) = _; rw [hs]; rfl), Hb.out⟩
      · go_wp2_with (go_at_call 133; refine (hasPairs_any _ _ _ _ hn).mono ?_; rintro e w2 ⟨rfl, rfl⟩)
        go_roundw
        case rel => exact ⟨1, by omega, by go_num, Hb.out, fun _ => (by first | exact hs | trivial), fun h => absurd h (by omega), fun h => absurd h (by omega)⟩
        case measure => simp [intOf]
    · cases hs : ps.all teethP
      · go_wp2_with (go_at_call 134; refine (hasTeeth_any _ _ _ ps _ Hl.out hn (HT.out.below Hb.out (Nat.le_refl _) |>.more Hb.out.size) Hw.out).mono ?_; rintro e w2 ⟨rfl, hb2⟩)
        go_ret
        exact ⟨(by show Ending.returned (.bool false) = _; rw [hs]; cases sizeB n <;> rfl), Hb.out.trans (hb2.mono Hb.out.size)⟩
      · go_wp2_with (go_at_call 134; refine (hasTeeth_any _ _ _ ps _ Hl.out hn (HT.out.below Hb.out (Nat.le_refl _) |>.more Hb.out.size) Hw.out).mono ?_; rintro e w2 ⟨rfl, hb2⟩)
        have Hb3 := Hb.out.trans (hb2.mono Hb.out.size)
        go_roundw
        case rel => exact ⟨2, by omega, by go_num, Hb3, fun _ => H1.out (by omega), fun _ => (by first | exact hs | trivial), fun h => absurd h (by omega)⟩
        case measure => simp [intOf]
    · cases hs : ps.all partP
      · go_wp2_with (go_at_call 135; refine (hasParts_any _ _ _ ps _ Hl.out hn (HT.out.below Hb.out (Nat.le_refl _) |>.more Hb.out.size)).mono ?_; rintro e w2 ⟨rfl, hb2⟩)
        go_ret
        exact ⟨(by show Ending.returned (.bool false) = _; rw [hs]; cases sizeB n <;> cases ps.all teethP <;> rfl), Hb.out.trans (hb2.mono Hb.out.size)⟩
      · go_wp2_with (go_at_call 135; refine (hasParts_any _ _ _ ps _ Hl.out hn (HT.out.below Hb.out (Nat.le_refl _) |>.more Hb.out.size)).mono ?_; rintro e w2 ⟨rfl, hb2⟩)
        have Hb3 := Hb.out.trans (hb2.mono Hb.out.size)
        go_roundw
        case rel => exact ⟨3, by omega, by go_num, Hb3, fun _ => H1.out (by omega), fun _ => H2.out (by omega), fun _ => (by first | exact hs | trivial)⟩
        case measure => simp [intOf]
    · go_wp2
      go_ret
      refine ⟨?_, Hb.out⟩
      rw [H1.out (by omega), H2.out (by omega), H3.out (by omega)]
      rfl
set_option maxRecDepth 100000 in
theorem l01Ok_any (A : Option Addr) (n c : Nat) (ps : List Px) (w : World) (hl : ps.length = n) (hn : n ≤ 1048576) (hT : Px.L w w.heap.size A ps) (hw : ∀ p ∈ ps, p.wf) :
    Calls Tryd.prog 62 #[.slice A n c] w fun e w' => e = .returned (.bool (okTr ps)) ∧ w = w' := by
  unfold okTr
  rw [hl]
  rcases Bool.eq_false_or_eq_true (sizeB n) with hs | hs
  · have hb1 : (1 : Int) ≤ (n : Int) := by simp [sizeB] at hs; omega
    have hb2 : (n : Int) ≤ 8 := by simp [sizeB] at hs; omega
    rw [hs]
    have Hl := Lib.hid hl; clear hl
    have Hw := Lib.hid hw; clear hw
    obtain ⟨b, off, rfl, hbs, hc⟩ := hT (by have := Hl.out; omega)
    have Hc := Lib.hid hc; clear hc hT hs
    go_enter Tryd.func62, Tryd.ntmps62
    go_wp2
    go_loop [3] (fun i => ∃ k : Nat, k ≤ n ∧ i = .int .i64 k ∧ (ps.take k).all okP = true) (fun i => n - (intOf i).toNat)
    case atStart => exact ⟨0, Nat.zero_le _, rfl, by simp⟩
    case round =>
      obtain ⟨k, hk, rfl, ht⟩ := hrel
      have Ht := Lib.hid ht; clear ht
      by_cases hlt : k < n
      · have hkl : k < ps.length := by have := Hl.out; omega
        obtain ⟨p, hp⟩ : ∃ p, ps[k]? = some p := ⟨_, List.getElem?_eq_getElem hkl⟩
        obtain ⟨⟨wa1, wa2⟩, ⟨wb1, wb2⟩, _⟩ := Hw.out p (List.mem_of_getElem? hp)
        obtain ⟨c0, c1, c2⟩ := cells3 (Hc.out k p hp)
        clear hkl
        have Hp := Lib.hid hp; clear hp
        rcases Bool.eq_false_or_eq_true (teethB p.a) with ha | ha
        · rcases Bool.eq_false_or_eq_true (teethB p.b) with hb | hb
          · rcases Bool.eq_false_or_eq_true (partB p.l) with hp | hp
            · go_wp2_with (first | (go_at_call 71; refine (l01Teeth_any _ _).mono ?_; rintro e w' ⟨rfl, rfl⟩) | (go_at_call 104; refine (l01Part_any _ _).mono ?_; rintro e w' ⟨rfl, rfl⟩))
              have Hall : (ps.take (k + 1)).all okP = true := all_take_succ Hp.out (by unfold okP teethP partP; rw [ha, hb, hp]; rfl) Ht.out
              go_round
              case rel => first | exact ⟨k + 1, by omega, by go_num, Hall⟩ | (refine ⟨trivial, ?_⟩; (repeat apply Exists.intro); exact ⟨⟨k + 1, by omega, by go_num, Hall⟩, rfl⟩)
              case measure => simp [intOf]; omega
            · go_wp2_with (first | (go_at_call 71; refine (l01Teeth_any _ _).mono ?_; rintro e w' ⟨rfl, rfl⟩) | (go_at_call 104; refine (l01Part_any _ _).mono ?_; rintro e w' ⟨rfl, rfl⟩))
              go_ret
              refine ⟨?_, rfl⟩
              rw [all_false_of Hp.out (by unfold okP teethP partP; rw [ha, hb, hp]; rfl)]
              rfl
          · go_wp2_with (first | (go_at_call 71; refine (l01Teeth_any _ _).mono ?_; rintro e w' ⟨rfl, rfl⟩) | (go_at_call 104; refine (l01Part_any _ _).mono ?_; rintro e w' ⟨rfl, rfl⟩))
            go_ret
            refine ⟨?_, rfl⟩
            rw [all_false_of Hp.out (by unfold okP teethP; rw [ha, hb]; rfl)]
            rfl
        · go_wp2_with (first | (go_at_call 71; refine (l01Teeth_any _ _).mono ?_; rintro e w' ⟨rfl, rfl⟩) | (go_at_call 104; refine (l01Part_any _ _).mono ?_; rintro e w' ⟨rfl, rfl⟩))
          go_ret
          refine ⟨?_, rfl⟩
          rw [all_false_of Hp.out (by unfold okP teethP; rw [ha]; rfl)]
          rfl
      · have hkn : k = n := by omega
        subst hkn
        go_wp2
        go_ret
        have h2 := Ht.out
        rw [List.take_of_length_le (by have := Hl.out; omega)] at h2
        exact ⟨by rw [h2]; rfl, rfl⟩
  · rw [hs]
    have hb : ¬ (1 ≤ (n : Int) ∧ (n : Int) ≤ 8) := by simp [sizeB] at hs; omega
    clear hT hw hs
    by_cases h1 : (1 : Int) ≤ (n : Int)
    · have h2 : ¬ ((n : Int) ≤ 8) := fun h => hb ⟨h1, h⟩
      clear hb
      go_enter Tryd.func62, Tryd.ntmps62
      go_wp2
      go_ret
      exact ⟨rfl, rfl⟩
    · clear hb
      go_enter Tryd.func62, Tryd.ntmps62
      go_wp2
      go_ret
      exact ⟨rfl, rfl⟩
end Go.Proofs.YtkkcihgnpephiaaDoor
