/-
  When two trains are the same.
-/
import Derived.Test.YtdfookgncokgjaaLawsA
import Derived.Laws.Externs
import Derived.Deep.QuietTactic
import Derived.BigQuiet
import Derived.WalkSmall
namespace Go.Proofs.Ytdfookgncokgjaa
open Go.RowKit Go.ChangeShapes Go.WideShapes Go.Deep
set_option linter.unusedVariables false
set_option linter.unusedSimpArgs false
theorem bits_call' (b : Nat) (w : World) : (callFunc 133 #[.float .f32 b]).run Try.prog w = .ok (.value (.int .u32 b)) w := by
  rw [run_callFunc_extern (fn := Try.f133) (e := Extern.MathFloatBits.float32bits) Try.func133 (by kernel_rfl) (by kernel_rfl) (by kernel_rfl) (by kernel_rfl)]
  rfl
attribute [local go_sem] bits_call'
def nanB (a : Nat) : Bool := (FloatKind.f32.decode a).isNaN
def sameB (a b : Nat) : Bool := if nanB a || nanB b then nanB a && nanB b else a == b
theorem natBeq (a b : Nat) : ((a : Int) == (b : Int)) = (a == b) := by
  by_cases h : a = b
  · subst h; simp
  · have h1 : ¬ ((a : Int) = (b : Int)) := by omega
    rw [beq_eq_false_iff_ne.2 h1, beq_eq_false_iff_ne.2 h]
theorem qn_ne' {a : Nat} (h : (FloatKind.f32.decode a).isNaN = false) : ((a : Int) == 2143289344) = false ∧ ((2143289344 : Int) == (a : Int)) = false := by
  have hq : (FloatKind.f32.decode 2143289344).isNaN = true := by decide +kernel
  have hne : a ≠ 2143289344 := fun e => by subst e; rw [h] at hq; cases hq
  exact ⟨by simp; omega, by simp; omega⟩
set_option maxRecDepth 100000 in
theorem implSame_any (a b : Nat) (w : World) :
    Calls Try.prog 50 #[.float .f32 a, .float .f32 b] w fun e w' => e = .returned (.bool (sameB a b)) ∧ Below w.heap.size w w' := by
  unfold sameB nanB
  cases ha : (FloatKind.f32.decode a).isNaN
  · have a2 := fun w => run_wide (P := Try.prog) w 27 73 a (by rw [Try.underlying27]; rfl) Try.underlying73 ha
    have a3 := order_self (wide_some ha).2
    cases hb : (FloatKind.f32.decode b).isNaN
    · have b2 := fun w => run_wide (P := Try.prog) w 27 73 b (by rw [Try.underlying27]; rfl) Try.underlying73 hb
      have b3 := order_self (wide_some hb).2
      clear ha hb
      go_enter Try.func50, Try.ntmps50
      go_wp2
      go_ret
      exact ⟨by rw [← natBeq]; rfl, by first | exact Below.refl _ _ | exact (Below.refl _ _).drew | exact (Below.refl _ _).drew.drew | exact (Below.refl _ _).drew.drew.drew⟩
    · have b2 := fun w => run_nan_wide (P := Try.prog) w 27 73 b (by rw [Try.underlying27]; rfl) Try.underlying73 hb
      have b3 := fun w => order_nan_left (nanTo w b) (nanTo_nan w b)
      obtain ⟨q1, q2⟩ := qn_ne' ha
      clear ha hb
      go_enter Try.func50, Try.ntmps50
      go_wp2
      all_goals
        go_ret
        exact ⟨rfl, by first | exact Below.refl _ _ | exact (Below.refl _ _).drew | exact (Below.refl _ _).drew.drew | exact (Below.refl _ _).drew.drew.drew⟩
  · have a2 := fun w => run_nan_wide (P := Try.prog) w 27 73 a (by rw [Try.underlying27]; rfl) Try.underlying73 ha
    have a3 := fun w => order_nan_left (nanTo w a) (nanTo_nan w a)
    cases hb : (FloatKind.f32.decode b).isNaN
    · have b2 := fun w => run_wide (P := Try.prog) w 27 73 b (by rw [Try.underlying27]; rfl) Try.underlying73 hb
      have b3 := order_self (wide_some hb).2
      obtain ⟨q1, q2⟩ := qn_ne' hb
      clear ha hb
      go_enter Try.func50, Try.ntmps50
      go_wp2
      all_goals
        go_ret
        exact ⟨rfl, by first | exact Below.refl _ _ | exact (Below.refl _ _).drew | exact (Below.refl _ _).drew.drew | exact (Below.refl _ _).drew.drew.drew⟩
    · have b2 := fun w => run_nan_wide (P := Try.prog) w 27 73 b (by rw [Try.underlying27]; rfl) Try.underlying73 hb
      have b3 := fun w => order_nan_left (nanTo w b) (nanTo_nan w b)
      clear ha hb
      go_enter Try.func50, Try.ntmps50
      go_wp2
      all_goals
        go_ret
        exact ⟨rfl, by first | exact Below.refl _ _ | exact (Below.refl _ _).drew | exact (Below.refl _ _).drew.drew | exact (Below.refl _ _).drew.drew.drew⟩
theorem l01Same_any (a b : Nat) (w : World) :
    Calls Try.prog 81 #[.float .f32 a, .float .f32 b] w fun e w' => e = .returned (.bool (sameB a b)) ∧ w = w' := by
  unfold sameB nanB
  cases ha : (FloatKind.f32.decode a).isNaN
  · have a2 := order_self ha
    cases hb : (FloatKind.f32.decode b).isNaN
    · have b2 := order_self hb
      clear ha hb
      go_enter Try.func81, Try.ntmps81
      go_wp2
      go_ret
      exact ⟨by rw [← natBeq]; rfl, rfl⟩
    · have b2 := order_nan_left b hb
      clear ha hb
      go_enter Try.func81, Try.ntmps81
      go_wp2
      all_goals
        go_ret
        exact ⟨rfl, rfl⟩
  · have a2 := order_nan_left a ha
    cases hb : (FloatKind.f32.decode b).isNaN
    · have b2 := order_self hb
      clear ha hb
      go_enter Try.func81, Try.ntmps81
      go_wp2
      all_goals
        go_ret
        exact ⟨rfl, rfl⟩
    · have b2 := order_nan_left b hb
      clear ha hb
      go_enter Try.func81, Try.ntmps81
      go_wp2
      all_goals
        go_ret
        exact ⟨rfl, rfl⟩
def samePr (p q : Pr) : Bool := (p.a == q.a) && (p.b == q.b) && sameB p.l q.l
set_option maxRecDepth 100000 in
theorem sameAs_any (p q : Pr) (w : World) :
    Calls Try.prog 118 #[.agg #[.int .i16 p.a, .int .i16 p.b, .float .f32 p.l], .agg #[.int .i16 q.a, .int .i16 q.b, .float .f32 q.l]] w fun e w' => e = .returned (.bool (samePr p q)) ∧ Below w.heap.size w w' := by
  unfold samePr
  cases h1 : (p.a == q.a)
  · go_enter Try.func118, Try.ntmps118
    go_wp2
    go_ret
    exact ⟨rfl, ((Below.refl _ _).alloc (Nat.le_refl _) _).alloc (by simp) _⟩
  · cases h2 : (p.b == q.b)
    · go_enter Try.func118, Try.ntmps118
      go_wp2
      go_ret
      exact ⟨rfl, ((Below.refl _ _).alloc (Nat.le_refl _) _).alloc (by simp) _⟩
    · go_enter Try.func118, Try.ntmps118
      go_wp2_with (go_at_call 50; refine (implSame_any _ _ _).mono ?_; rintro e w1 ⟨rfl, b1⟩; have B1 := Lib.hid b1; clear b1)
      go_ret
      exact ⟨by simp, (((Below.refl _ _).alloc (Nat.le_refl _) _).alloc (by simp) _).trans (B1.out.mono (by simp; omega))⟩
def sameTr : List Pr → List Pr → Bool
  | [], [] => true
  | p :: ps, q :: qs => samePr p q && sameTr ps qs
  | _, _ => false
theorem sameTr_len : ∀ (ps qs : List Pr), ps.length ≠ qs.length → sameTr ps qs = false
  | [], [], h => absurd rfl h
  | [], _ :: _, _ => rfl
  | _ :: _, [], _ => rfl
  | p :: ps, q :: qs, h => by
    rw [sameTr, sameTr_len ps qs (by simpa using h), Bool.and_false]
theorem sameTr_false : ∀ (ps qs : List Pr) (k : Nat) (p q : Pr), ps[k]? = some p → qs[k]? = some q → samePr p q = false → sameTr ps qs = false
  | [], _, k, p, q, h, _, _ => by simp at h
  | _ :: _, [], k, p, q, _, h, _ => by simp at h
  | p' :: ps, q' :: qs, 0, p, q, h1, h2, h3 => by
    simp at h1 h2
    subst h1 h2
    rw [sameTr, h3, Bool.false_and]
  | p' :: ps, q' :: qs, k + 1, p, q, h1, h2, h3 => by
    rw [sameTr, sameTr_false ps qs k p q (by simpa using h1) (by simpa using h2) h3, Bool.and_false]
theorem sameTr_true : ∀ (ps qs : List Pr), ps.length = qs.length → (∀ (i : Nat) (p q : Pr), ps[i]? = some p → qs[i]? = some q → samePr p q = true) → sameTr ps qs = true
  | [], [], _, _ => rfl
  | [], _ :: _, h, _ => by simp at h
  | _ :: _, [], h, _ => by simp at h
  | p :: ps, q :: qs, h, k => by
    rw [sameTr, k 0 p q rfl rfl, Bool.true_and]
    exact sameTr_true ps qs (by simpa using h) (fun i p' q' h1 h2 => k (i + 1) p' q' (by simpa using h1) (by simpa using h2))
set_option maxRecDepth 100000 in
theorem equalFunc_any (A A' : Option Addr) (n n' c c' : Nat) (ps qs : List Pr) (w : World) (hl : ps.length = n) (hl' : qs.length = n') (hn : n ≤ 1048576) (hn' : n' ≤ 1048576) (hT : Tr w w.heap.size A ps) (hT' : Tr w w.heap.size A' qs) :
    Calls Try.prog 117 #[.slice A n c, .slice A' n' c', .func (.func 118) #[] #[]] w fun e w' => e = .returned (.bool (sameTr ps qs)) ∧ Below w.heap.size w w' := by
  have Hl := Lib.hid hl; clear hl
  have Hl' := Lib.hid hl'; clear hl'
  have HT := Lib.hid hT; clear hT
  have HT' := Lib.hid hT'; clear hT'
  by_cases hnn : n = n'
  · subst hnn
    have hbq : ((n : Int) != (n : Int)) = false := by simp
    go_enter Try.func117, Try.ntmps117
    go_wp2
    go_loopw [17] (fun i wr => ∃ k : Nat, k ≤ n ∧ i = .int .i64 k ∧ (∀ (i : Nat) (p q : Pr), i < k → ps[i]? = some p → qs[i]? = some q → samePr p q = true) ∧ Below w.heap.size w wr) (fun i _ => n - (intOf i).toNat)
    case atStart => exact ⟨0, Nat.zero_le _, rfl, fun i p q h => absurd h (by omega), Below.refl _ _⟩
    case round =>
      obtain ⟨k, hk, rfl, hs, hb⟩ := hrel
      have Hs := Lib.hid hs; clear hs
      have Hb := Lib.hid hb; clear hb
      by_cases hlt : k < n
      · have hkl : k < ps.length := by have := Hl.out; omega
        have hkl' : k < qs.length := by have := Hl'.out; omega
        obtain ⟨b, off, rfl, hbs, hc⟩ := HT.out (by omega)
        obtain ⟨b', off', rfl, hbs', hc'⟩ := HT'.out (by omega)
        obtain ⟨p, hp⟩ : ∃ p, ps[k]? = some p := ⟨_, List.getElem?_eq_getElem hkl⟩
        obtain ⟨q, hq⟩ : ∃ q, qs[k]? = some q := ⟨_, List.getElem?_eq_getElem hkl'⟩
        obtain ⟨c0, c1, c2⟩ := cells3 (rangeAt_of_block (hc k p hp) (Hb.out.block b hbs))
        have hbr : b' < wr.heap.size := Nat.lt_of_lt_of_le hbs' Hb.out.size
        obtain ⟨d0, d1, d2⟩ := cells3 (rangeAt_of_block (hc' k q hq) (Hb.out.block b' hbs'))
        have f0 := fun o => (World.cell?_alloc_lt wr o ⟨b', off' + k * 3, none⟩ hbr).trans d0
        have f1 := fun o => (World.cell?_alloc_lt wr o ⟨b', off' + k * 3 + 1, none⟩ hbr).trans d1
        have f2 := fun o => (World.cell?_alloc_lt wr o ⟨b', off' + k * 3 + 2, none⟩ hbr).trans d2
        clear hc hc' hkl hkl' d0 d1 d2
        have Hp := Lib.hid hp; clear hp
        have Hq := Lib.hid hq; clear hq
        rcases Bool.eq_false_or_eq_true (samePr p q) with hs | hs
        · go_wp2_with (go_at_call 118; refine (sameAs_any p q _).mono ?_; rintro e w2 ⟨rfl, b2⟩; have B2 := Lib.hid b2; clear b2)
          have Hb2 := (((Hb.out.alloc Hb.out.size (.cells #[.int .i16 p.a, .int .i16 p.b, .float .f32 p.l] 44)).alloc (by have := Hb.out.size; simp; omega) (.cells #[.int .i16 q.a, .int .i16 q.b, .float .f32 q.l] 44))).trans (B2.out.mono (by have := Hb.out.size; simp; omega))
          have HS : ∀ (i : Nat) (p q : Pr), i < k + 1 → ps[i]? = some p → qs[i]? = some q → samePr p q = true := fun i p' q' hi h1 h2 => by
            rcases (by omega : i < k ∨ i = k) with h | rfl
            · exact Hs.out i p' q' h h1 h2
            · have e1 := Hp.out; have e2 := Hq.out
              rw [h1] at e1; rw [h2] at e2
              cases e1; cases e2
              exact hs
          have HS' := Lib.hid HS; clear HS
          have HB2 := Lib.hid Hb2; clear Hb2
          go_roundw
          case rel => exact ⟨k + 1, by omega, by go_num, HS'.out, HB2.out⟩
          case measure => simp [intOf]; omega
        · go_wp2_with (go_at_call 118; refine (sameAs_any p q _).mono ?_; rintro e w2 ⟨rfl, b2⟩; have B2 := Lib.hid b2; clear b2)
          have Hb2 := (((Hb.out.alloc Hb.out.size (.cells #[.int .i16 p.a, .int .i16 p.b, .float .f32 p.l] 44)).alloc (by have := Hb.out.size; simp; omega) (.cells #[.int .i16 q.a, .int .i16 q.b, .float .f32 q.l] 44))).trans (B2.out.mono (by have := Hb.out.size; simp; omega))
          go_ret
          refine ⟨?_, Hb2⟩
          rw [sameTr_false ps qs k p q Hp.out Hq.out hs]
          rfl
      · have hkn : k = n := by omega
        subst hkn
        go_wp2
        go_ret
        refine ⟨?_, Hb.out⟩
        rw [sameTr_true ps qs (Hl.out.trans Hl'.out.symm) (fun i p q h1 h2 => Hs.out i p q (by have := (List.getElem?_eq_some_iff.1 h1).1; have := Hl.out; omega) h1 h2)]
        rfl
  · have hbq : ((n : Int) != (n' : Int)) = true := by simp; omega
    have hf : sameTr ps qs = false := sameTr_len ps qs (by rw [Hl.out, Hl'.out]; exact hnn)
    have Hf := Lib.hid hf; clear hf
    go_enter Try.func117, Try.ntmps117
    go_wp2
    go_ret
    refine ⟨?_, Below.refl _ _⟩
    rw [Hf.out]
    rfl
set_option maxRecDepth 100000 in
theorem l01SameTrain_any (A A' : Option Addr) (n n' c c' : Nat) (ps qs : List Pr) (w : World) (hl : ps.length = n) (hl' : qs.length = n') (hn : n ≤ 1048576) (hn' : n' ≤ 1048576) (hT : Tr w w.heap.size A ps) (hT' : Tr w w.heap.size A' qs) :
    Calls Try.prog 116 #[.slice A n c, .slice A' n' c'] w fun e w' => e = .returned (.bool (sameTr ps qs)) ∧ Below w.heap.size w w' := by
  have Hl := Lib.hid hl; clear hl
  have Hl' := Lib.hid hl'; clear hl'
  have HT := Lib.hid hT; clear hT
  have HT' := Lib.hid hT'; clear hT'
  by_cases hnn : n = n'
  · subst hnn
    have hbq : ((n : Int) != (n : Int)) = false := by simp
    go_enter Try.func116, Try.ntmps116
    go_wp2
    go_loopw [5] (fun i wr => ∃ k : Nat, k ≤ n ∧ i = .int .i64 k ∧ (∀ (i : Nat) (p q : Pr), i < k → ps[i]? = some p → qs[i]? = some q → samePr p q = true) ∧ Below w.heap.size w wr) (fun i _ => n - (intOf i).toNat)
    case atStart => exact ⟨0, Nat.zero_le _, rfl, fun i p q h => absurd h (by omega), Below.refl _ _⟩
    case round =>
      obtain ⟨k, hk, rfl, hs, hb⟩ := hrel
      have Hs := Lib.hid hs; clear hs
      have Hb := Lib.hid hb; clear hb
      by_cases hlt : k < n
      · have hkl : k < ps.length := by have := Hl.out; omega
        have hkl' : k < qs.length := by have := Hl'.out; omega
        obtain ⟨b, off, rfl, hbs, hc⟩ := HT.out (by omega)
        obtain ⟨b', off', rfl, hbs', hc'⟩ := HT'.out (by omega)
        obtain ⟨p, hp⟩ : ∃ p, ps[k]? = some p := ⟨_, List.getElem?_eq_getElem hkl⟩
        obtain ⟨q, hq⟩ : ∃ q, qs[k]? = some q := ⟨_, List.getElem?_eq_getElem hkl'⟩
        obtain ⟨c0, c1, c2⟩ := cells3 (rangeAt_of_block (hc k p hp) (Hb.out.block b hbs))
        obtain ⟨d0, d1, d2⟩ := cells3 (rangeAt_of_block (hc' k q hq) (Hb.out.block b' hbs'))
        clear hc hc' hkl hkl'
        have Hp := Lib.hid hp; clear hp
        have Hq := Lib.hid hq; clear hq
        have hlt' : (k : Int) < (n : Int) := by omega
        cases h1 : (p.a != q.a)
        · cases h2 : (p.b != q.b)
          · cases h3 : sameB p.l q.l
            · have hs : samePr p q = false := by
                unfold samePr
                rw [h3, Bool.and_false]
              have HS := Lib.hid hs; clear hs
              go_wp2_with fail
              go_quiet ((go_at_call 81; exact Calls.quiet_of_same ((l01Same_any _ _ _).mono fun _ _ h => ⟨h.1, h.2.symm⟩)))
              go_wp2
              go_ret
              refine ⟨?_, below_drewN Hb.out _⟩
              rw [sameTr_false ps qs k p q Hp.out Hq.out HS.out]
              rfl
            · have hs : samePr p q = true := by
                unfold samePr
                simp at h1 h2
                simp [h1, h2, h3]
              have HS : ∀ (i : Nat) (p q : Pr), i < k + 1 → ps[i]? = some p → qs[i]? = some q → samePr p q = true := fun i p' q' hi h1 h2 => by
                rcases (by omega : i < k ∨ i = k) with h | rfl
                · exact Hs.out i p' q' h h1 h2
                · have e1 := Hp.out; have e2 := Hq.out
                  rw [h1] at e1; rw [h2] at e2
                  cases e1; cases e2
                  exact hs
              have HS' := Lib.hid HS; clear HS hs
              go_wp2_with fail
              go_quiet ((go_at_call 81; exact Calls.quiet_of_same ((l01Same_any _ _ _).mono fun _ _ h => ⟨h.1, h.2.symm⟩)))
              go_wp2
              have HB2 := Lib.hid (below_drewN Hb.out nq)
              go_roundw
              case rel => exact ⟨k + 1, by omega, by go_num, HS'.out, HB2.out⟩
              case measure => simp [intOf]; omega
          · have hs : samePr p q = false := by
              unfold samePr
              simp at h2
              simp [h2]
            have HS := Lib.hid hs; clear hs
            go_wp2_with fail
            go_quiet ((go_at_call 81; exact Calls.quiet_of_same ((l01Same_any _ _ _).mono fun _ _ h => ⟨h.1, h.2.symm⟩)))
            go_wp2
            go_ret
            refine ⟨?_, below_drewN Hb.out _⟩
            rw [sameTr_false ps qs k p q Hp.out Hq.out HS.out]
            rfl
        · have hs : samePr p q = false := by
            unfold samePr
            simp at h1
            simp [h1]
          have HS := Lib.hid hs; clear hs
          go_wp2_with fail
          go_quiet ((go_at_call 81; exact Calls.quiet_of_same ((l01Same_any _ _ _).mono fun _ _ h => ⟨h.1, h.2.symm⟩)))
          go_wp2
          go_ret
          refine ⟨?_, below_drewN Hb.out _⟩
          rw [sameTr_false ps qs k p q Hp.out Hq.out HS.out]
          rfl
      · have hkn : k = n := by omega
        subst hkn
        go_wp2
        go_ret
        refine ⟨?_, Hb.out⟩
        rw [sameTr_true ps qs (Hl.out.trans Hl'.out.symm) (fun i p q h1 h2 => Hs.out i p q (by have := (List.getElem?_eq_some_iff.1 h1).1; have := Hl.out; omega) h1 h2)]
        rfl
  · have hbq : ((n : Int) != (n' : Int)) = true := by simp; omega
    have hf : sameTr ps qs = false := sameTr_len ps qs (by rw [Hl.out, Hl'.out]; exact hnn)
    have Hf := Lib.hid hf; clear hf
    go_enter Try.func116, Try.ntmps116
    go_wp2
    go_ret
    refine ⟨?_, Below.refl _ _⟩
    rw [Hf.out]
    rfl
theorem szTrain_left (A : Option Addr) (n c : Nat) (L : Int) (w : World) (hn : n ≤ maxLen) (h0 : 0 ≤ L) (h1 : L ≤ 1048576) :
    Calls Try.prog 55 #[.slice A n c, .int .i64 L] w fun e w' => e = .returned (.int .i64 (if L < n then -1 else L - n)) ∧ w = w' := by
  unfold maxLen at hn
  by_cases h : L < n
  · rw [if_pos h]
    go_enter Try.func55, Try.ntmps55
    go_wp2
    go_ret
    exact ⟨rfl, rfl⟩
  · rw [if_neg h]
    go_enter Try.func55, Try.ntmps55
    go_wp2
    go_ret
    exact ⟨rfl, rfl⟩
theorem specSameTrain_any (A A' : Option Addr) (n n' c c' : Nat) (ps qs : List Pr) (w : World) (hl : ps.length = n) (hl' : qs.length = n') (hn : n ≤ 1048576) (hn' : n' ≤ 1048576) (hT : Tr w w.heap.size A ps) (hT' : Tr w w.heap.size A' qs) :
    Calls Try.prog 60 #[.slice A n c, .slice A' n' c'] w fun e w' => e = .returned (.bool (sameTr ps qs)) ∧ Below w.heap.size w w' := by
  have Hl := Lib.hid hl; clear hl
  have Hl' := Lib.hid hl'; clear hl'
  have HT := Lib.hid hT; clear hT
  have HT' := Lib.hid hT'; clear hT'
  go_enter Try.func60, Try.ntmps60
  go_wp2_with (go_at_call 116; refine (l01SameTrain_any _ _ _ _ _ _ ps qs _ Hl.out Hl'.out hn hn' HT.out HT'.out).mono ?_; rintro e w1 ⟨rfl, b1⟩; have B1 := Lib.hid b1; clear b1)
  go_ret
  exact ⟨rfl, B1.out⟩
theorem implSameTrain_any (A A' : Option Addr) (n n' c c' : Nat) (ps qs : List Pr) (w : World) (hl : ps.length = n) (hl' : qs.length = n') (hn : n ≤ 1048576) (hn' : n' ≤ 1048576) (hT : Tr w w.heap.size A ps) (hT' : Tr w w.heap.size A' qs) :
    Calls Try.prog 61 #[.slice A n c, .slice A' n' c'] w fun e w' => e = .returned (.bool (sameTr ps qs)) ∧ Below w.heap.size w w' := by
  have Hl := Lib.hid hl; clear hl
  have Hl' := Lib.hid hl'; clear hl'
  have HT := Lib.hid hT; clear hT
  have HT' := Lib.hid hT'; clear hT'
  go_enter Try.func61, Try.ntmps61
  go_wp2_with (go_at_call 117; refine (equalFunc_any _ _ _ _ _ _ ps qs _ Hl.out Hl'.out hn hn' HT.out HT'.out).mono ?_; rintro e w1 ⟨rfl, b1⟩; have B1 := Lib.hid b1; clear b1)
  go_ret
  exact ⟨rfl, B1.out⟩
set_option maxRecDepth 100000 in
theorem walk_FnExactSameTrain (A : Option Addr) (n c : Nat) (ps : List Pr) (A' : Option Addr) (n' c' : Nat) (qs : List Pr) (w : World) (h : PairsIn w A n c ps) (h' : PairsIn w A' n' c' qs) :
    Calls Try.prog 10 #[.slice A n c, .slice A' n' c'] w fun e w' => e = .returned (.bool true) ∧ Below w.heap.size w w' := by
  obtain ⟨hl, hnc, hc, hT, hw⟩ := h
  obtain ⟨hl', hnc', hc', hT', hw'⟩ := h'
  have hnm : n ≤ maxLen := Nat.le_trans hnc hc
  have hnm' : n' ≤ maxLen := Nat.le_trans hnc' hc'
  have Hl := Lib.hid hl; clear hl
  have HT := Lib.hid hT; clear hT
  have Hl' := Lib.hid hl'; clear hl'
  have HT' := Lib.hid hT'; clear hT' hw hw'
  by_cases hn : 1048576 < n
  · go_enter Try.func10, Try.ntmps10
    go_wp2_with (go_at_call 55; refine (szTrain_any _ _ _ _ hnm).mono ?_; rintro e w1 ⟨rfl, rfl⟩; rw [if_pos hn])
    go_ret
    exact ⟨rfl, Below.refl _ _⟩
  · go_enter Try.func10, Try.ntmps10
    go_wp2_with fail
    refine (szTrain_any _ _ _ _ hnm).mono ?_
    rintro e w1 ⟨rfl, rfl⟩
    rw [if_neg hn]
    have hL0 : (0 : Int) ≤ 1048576 - (n : Int) := by omega
    have hL1 : 1048576 - (n : Int) ≤ 1048576 := by omega
    by_cases hn2 : 1048576 - (n : Int) < (n' : Int)
    · go_wp2_with (go_at_call 55; refine (szTrain_left _ _ _ _ _ hnm' hL0 hL1).mono ?_; rintro e w1 ⟨rfl, rfl⟩; try rw [if_pos hn2])
      go_ret
      exact ⟨rfl, Below.refl _ _⟩
    · have k1 : n ≤ 1048576 := by omega
      have k2 : n' ≤ 1048576 := by omega
      go_wp2_with (go_at_call 55; refine (szTrain_left _ _ _ _ _ hnm' hL0 hL1).mono ?_; rintro e w1 ⟨rfl, rfl⟩; try rw [if_neg hn2])
      refine (toTrain_any A n c ps _ Hl.out k1 HT.out).mono ?_
      rintro e w1 ⟨rfl, m1⟩
      have M1 := Lib.hid m1; clear m1
      go_wp2_with fail
      refine (toTrain_any A' n' c' qs _ Hl'.out k2 (HT'.out.keep M1.out.below)).mono ?_
      rintro e w2 ⟨rfl, m2⟩
      have M2 := Lib.hid m2; clear m2
      have B2 := Lib.hid (bthen M1.out.below M2.out.below)
      go_wp2_with fail
      refine (specSameTrain_any _ _ _ _ _ _ ps qs _ Hl.out Hl'.out k1 k2 (M1.out.tr.keep M2.out.below) M2.out.tr).mono ?_
      rintro e w3 ⟨rfl, b3⟩
      have B3 := Lib.hid (bthen B2.out b3); clear b3
      go_wp2_with fail
      refine (toTrain_any A n c ps _ Hl.out k1 (HT.out.keep B3.out)).mono ?_
      rintro e w4 ⟨rfl, m4⟩
      have M4 := Lib.hid m4; clear m4
      have B4 := Lib.hid (bthen B3.out M4.out.below)
      go_wp2_with fail
      refine (toTrain_any A' n' c' qs _ Hl'.out k2 (HT'.out.keep B4.out)).mono ?_
      rintro e w5 ⟨rfl, m5⟩
      have M5 := Lib.hid m5; clear m5
      have B5 := Lib.hid (bthen B4.out M5.out.below)
      go_wp2_with fail
      refine (implSameTrain_any _ _ _ _ _ _ ps qs _ Hl.out Hl'.out k1 k2 (M4.out.tr.keep M5.out.below) M5.out.tr).mono ?_
      rintro e w6 ⟨rfl, b6⟩
      have X6 := Lib.hid ((M4.out.tr.keep M5.out.below).keep b6)
      have Y6 := Lib.hid (M5.out.tr.keep b6)
      have B6 := Lib.hid (bthen B5.out b6); clear b6
      go_wp2_with fail
      refine (toTrain_any A n c ps _ Hl.out k1 (HT.out.keep B6.out)).mono ?_
      rintro e w7 ⟨rfl, m7⟩
      have M7 := Lib.hid m7; clear m7
      have B7 := Lib.hid (bthen B6.out M7.out.below)
      have Y7 := Lib.hid (Y6.out.keep M7.out.below)
      go_wp2_with fail
      refine (eqTrain_same _ _ _ _ _ ps _ Hl.out k1 (X6.out.keep M7.out.below) M7.out.tr).mono ?_
      rintro e w8 ⟨rfl, b8⟩
      have Y8 := Lib.hid (Y7.out.keep b8)
      have B8 := Lib.hid (bthen B7.out b8); clear b8
      go_wp2_with fail
      refine (toTrain_any A' n' c' qs _ Hl'.out k2 (HT'.out.keep B8.out)).mono ?_
      rintro e w9 ⟨rfl, m9⟩
      have M9 := Lib.hid m9; clear m9
      have B9 := Lib.hid (bthen B8.out M9.out.below)
      go_wp2_with fail
      refine (eqTrain_same _ _ _ _ _ qs _ Hl'.out k2 (Y8.out.keep M9.out.below) M9.out.tr).mono ?_
      rintro e w10 ⟨rfl, b10⟩
      have Fin := Lib.hid (bthen B9.out b10); clear b10
      go_wp2
      go_ret
      exact ⟨rfl, Fin.out⟩
end Go.Proofs.Ytdfookgncokgjaa
