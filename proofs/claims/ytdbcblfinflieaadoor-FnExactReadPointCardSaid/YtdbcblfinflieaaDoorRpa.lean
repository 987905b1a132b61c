/-
  A point read from its text: the program's and the model's; the law.
-/
import Derived.Test.YtdbcblfinflieaaDoorTxn
import Derived.Test.YtdbcblfinflieaaDoorTxm
import Derived.Test.YtdbcblfinflieaaDoorCpa
import Derived.Laws.Cover3
namespace Go.Proofs.YtdbcblfinflieaaDoor
open Go.RowKit Go.ChangeShapes Go.WideShapes Go.Deep
attribute [local go_sem ↓] Go.wp_at_zero Go.wp_at_succ
set_option linter.unusedVariables false
set_option linter.unusedSimpArgs false
set_option maxRecDepth 100000
theorem splitKP_short (b : UInt8) : ∀ (k : Nat) (s x : List UInt8), x ∈ Lib.splitK [b] 0 k s → x.length ≤ s.length
  | 0, s, x, h => by simp [Lib.splitK] at h; subst h; exact Nat.le_refl _
  | k + 1, s, x, h => by
    by_cases hb : b ∈ s
    · obtain ⟨y, z, h1, rfl⟩ := first_of b s hb
      rw [splitK_hit b k y z h1] at h
      rcases List.mem_cons.1 h with rfl | h
      · simp
      · have := splitKP_short b k z x h
        simp; omega
    · rw [splitK_miss b (k + 1) s hb] at h
      simp at h; subst h; exact Nat.le_refl _
theorem splitNP_short {b : UInt8} {n : Nat} {s x : List UInt8} (h : x ∈ Lib.splitN s [b] n) : x.length ≤ s.length := splitKP_short b _ s x h
theorem splitNP_pos (b : UInt8) (n : Nat) (s : List UInt8) (hn : 1 ≤ n) : 0 < (Lib.splitN s [b] n).length ∧ (Lib.splitN s [b] n).length ≤ n := by
  rw [splitN_length b n s hn]
  have := List.length_pos_iff.2 (spl_ne b s)
  omega
theorem rdVP_len (l : List (List UInt8)) : (rdV l).length = l.length := by simp [rdV]
theorem l2_ofP {α : Type} {l : List α} (h : l.length = 2) : ∃ a b, l = [a, b] := by
  match l, h with
  | [a, b], _ => exact ⟨a, b, rfl⟩
/-- The two words that a text gives. -/
def rpW (ws : List (List UInt8)) : Option (Nat × Nat) := if ws.length = 2 then (if okAll ws then some ((rdV ws).getD 0 0, (rdV ws).getD 1 0) else none) else none
def rpP (l : List UInt8) : Option (Nat × Nat) := rpW (spl 32 l)
theorem rpW_split (l : List UInt8) : rpW (Lib.splitN l [32] 3) = rpP l := by
  unfold rpP
  by_cases h : (spl 32 l).length ≤ 3
  · rw [splitN_few 32 3 l (by decide) h]
  · have h1 : (Lib.splitN l [32] 3).length = 3 := (splitN_many 32 3 l (by decide) (by omega)).1
    unfold rpW
    rw [if_neg (by omega), if_neg (by omega)]
def rpX (r : Option (Nat × Nat)) : Nat := (r.getD (0, 0)).1
def rpY (r : Option (Nat × Nat)) : Nat := (r.getD (0, 0)).2
def rpK (r : Option (Nat × Nat)) : Int := if r.isSome then 0 else 5
/-- The call returns a point, and a code. -/
def RdP (r : Option (Nat × Nat)) (w : World) (e : Ending) (w' : World) : Prop := e = .returned (.tuple #[.complex .f32 (rpX r) (rpY r), .int .i64 (rpK r)]) ∧ Below w.heap.size w w'
theorem rdp_none {w w' : World} {r : Option (Nat × Nat)} (h : r = none) (b : Below w.heap.size w w') : RdP r w (.returned (.tuple #[.complex .f32 0 0, .int .i64 5])) w' := by subst h; exact ⟨rfl, b⟩
theorem rdp_some {w w' : World} {r : Option (Nat × Nat)} {x y : Nat} (h : r = some (x, y)) (b : Below w.heap.size w w') : RdP r w (.returned (.tuple #[.complex .f32 x y, .int .i64 0])) w' := by subst h; exact ⟨rfl, b⟩
theorem number_any (x y : Nat) (w : World) : Calls Tryd.prog 24 #[.agg #[.float .f32 x, .float .f32 y]] w (RV (.complex .f32 x y) w) := by
  have K := Blk.new w #[.float .f32 x, .float .f32 y] 52
  have c0 := K.cell 0; have c1 := K.cell 1
  simp at c0 c1
  clear K
  go_enter Tryd.func24, Tryd.ntmps24
  go_wp2
  go_ret
  exact ⟨rfl, b_alloc (Below.refl _ _) _⟩
set_option maxHeartbeats 4000000 in
theorem implReadPoint_any (t : ByteArray) (hs : t.size ≤ 1048576) (w : World) (hT : TbAt w) (hE : TeAt w) (hM : TmAt w) : Calls Tryd.prog 6 #[.string t] w (RdP (rpP t.data.toList) w) := by
  have HS := Lib.hid (splitN_any t 32 3 (by decide) (by decide) hs w hM)
  have HT := Lib.hid hT; have HE := Lib.hid hE
  have hw := rpW_split t.data.toList
  have hp := splitNP_pos 32 3 t.data.toList (by decide)
  have hsh : ∀ x ∈ Lib.splitN t.data.toList [32] 3, x.length ≤ 1048576 := fun x hx => Nat.le_trans (splitNP_short hx) (by rw [← Lib.size_eq]; exact hs)
  have HW := Lib.hid hw; have Hsh := Lib.hid hsh
  obtain ⟨hp1, hp2⟩ := hp
  clear hT hE hM hw hsh
  generalize Lib.splitN t.data.toList [32] 3 = ws at *
  generalize rpP t.data.toList = R at *
  go_enter Tryd.func6, Tryd.ntmps6
  go_wp2_with fail
  refine HS.out.mono ?_
  rintro e w1 ⟨v1, rfl, hst, b1⟩
  have HN := Lib.hid (readNums_any _ ws hp1 (by omega) Hsh.out w1 hst (HT.out.below b1) (HE.out.below b1))
  have B1 := Lib.hid b1
  clear b1 hst
  go_wp2_with fail
  refine HN.out.mono ?_
  rintro e w2 ⟨hif, b2⟩
  have B2 := Lib.hid (b_then B1.out b2)
  clear b2 HN B1
  cases hok : okAll ws
  · rw [hok] at hif
    obtain rfl := hif
    have hR : R = none := by rw [← HW.out]; unfold rpW; rw [hok]; split <;> rfl
    have HR := Lib.hid hR
    clear hok hR
    go_wp2
    go_ret2
    exact rdp_none HR.out B2.out
  · rw [hok] at hif
    obtain ⟨v2, he, hfl⟩ := hif
    subst he
    by_cases h2 : ws.length = 2
    · have hlen : (rdV ws).length = 2 := by rw [rdVP_len]; exact h2
      obtain ⟨x0, x1, hx⟩ := l2_ofP hlen
      have hR : R = some (x0, x1) := by rw [← HW.out]; unfold rpW; rw [if_pos h2, hok, if_pos rfl, hx]; rfl
      have HR := Lib.hid hR
      rw [hx] at hfl
      obtain ⟨b2, o2, c2, rfl, hb2, hlc2, hcm2, hcell2⟩ := hfl
      have a0 : w2.cell? ⟨b2, o2, none⟩ = some (.float .f32 x0) := hcell2 0 x0 rfl
      have a1 : w2.cell? ⟨b2, o2 + 1, none⟩ = some (.float .f32 x1) := hcell2 1 x1 rfl
      have hl2 : ([x0, x1] : List Nat).length = 2 := rfl
      rw [hl2] at hlc2 ⊢
      have LN := Lib.hid (fun W => number_any x0 x1 W)
      have hAA : ∀ W : World, (Instr.arrayAt 52 (.slice (some ⟨b2, o2, none⟩) 2 c2)).run Tryd.prog W = .ok (.pointer (some ⟨b2, o2, none⟩)) W := fun W => run_arrayAt _ 52 32 2 _ 2 _ Tryd.underlying52 (Nat.le_refl _)
      clear hok hR hcell2 hlen hx hl2 h2
      go_wp2_with (go_at_call 24; refine (LN.out _).mono ?_; rintro e w3 ⟨rfl, b3⟩)
      go_ret2
      exact rdp_some HR.out (b_then B2.out b3)
    · obtain ⟨b2, o2, c2, rfl, hb2, hlc2, hcm2, hcell2⟩ := hfl
      have hR : R = none := by rw [← HW.out]; unfold rpW; rw [if_neg h2]
      have HR := Lib.hid hR
      have hli : (((rdV ws).length : Nat) : Int) = (ws.length : Int) := by rw [rdVP_len]
      have h2i : ((ws.length : Int) != 2) = true := by
        have : ¬ ((ws.length : Int) = 2) := by omega
        simpa using this
      clear hok hR hcell2 h2
      go_wp2
      go_ret2
      exact rdp_none HR.out B2.out
set_option maxHeartbeats 4000000 in
theorem specReadPoint_any (t : ByteArray) (hs : t.size ≤ 1048576) (w : World) : Calls Tryd.prog 5 #[.string t] w (RdP (rpP t.data.toList) w) := by
  have HS := Lib.hid (l01Split_any t 32 hs w)
  have hw : rpW (spl 32 t.data.toList) = rpP t.data.toList := rfl
  have HW := Lib.hid hw
  clear hw
  generalize rpP t.data.toList = R at *
  have hln : (spl 32 t.data.toList).length ≤ 1048577 := Nat.le_trans (spl_le 32 t.data.toList) (by rw [← Lib.size_eq]; omega)
  generalize spl 32 t.data.toList = ws at *
  go_enter Tryd.func5, Tryd.ntmps5
  go_wp2_with fail
  refine HS.out.mono ?_
  rintro e w1 ⟨v1, rfl, hst, b1⟩
  have B1 := Lib.hid b1
  obtain ⟨b, o, c, rfl, hb, hlc, hcm, hcell⟩ := hst
  clear b1 HS
  by_cases h2 : ws.length = 2
  · obtain ⟨x0, x1, rfl⟩ := l2_ofP h2
    have c0 : w1.cell? ⟨b, o, none⟩ = some (.string (bsOf x0)) := hcell 0 x0 rfl
    have c1 : w1.cell? ⟨b, o + 1, none⟩ = some (.string (bsOf x1)) := hcell 1 x1 rfl
    have hlw : ([x0, x1] : List (List UInt8)).length = 2 := rfl
    rw [hlw] at hlc ⊢
    have L0 := Lib.hid (fun W => l01Read_any (bsOf x0) W)
    have L1 := Lib.hid (fun W => l01Read_any (bsOf x1) W)
    rw [bsOf_data] at L0 L1
    generalize bsOf x0 = T0 at *
    generalize bsOf x1 = T1 at *
    clear hcell h2 hlw hln hcm hs
    have Wout := Lib.hid HW.out
    obtain ⟨u0, hu0⟩ : ∃ u, (rdN x0).isSome = u := ⟨_, rfl⟩
    obtain ⟨u1, hu1⟩ : ∃ u, (rdN x1).isSome = u := ⟨_, rfl⟩
    have hokA : okAll [x0, x1] = (u0 && u1) := by rw [← hu0, ← hu1]; simp [okAll]
    have HO := Lib.hid hokA
    have U0 := Lib.hid hu0; have U1 := Lib.hid hu1
    rw [hu0] at L0
    rw [hu1] at L1
    clear hu0 hu1 hokA
    go_wp2_with fail
    refine (L0.out _).mono ?_
    rintro e w2 ⟨⟨x', rfl, hx'⟩, rfl⟩
    have Hx := Lib.hid hx'
    clear hx'
    go_wp2_with fail
    refine (L1.out _).mono ?_
    rintro e w3 ⟨⟨y', rfl, hy'⟩, rfl⟩
    have Hy := Lib.hid hy'
    clear hy' c0 c1
    cases u0
    · have HR : Hid (R = none) := Lib.hid (by rw [← HW.out]; unfold rpW; rw [HO.out]; rfl)
      go_wp2
      go_ret2
      exact rdp_none HR.out B1.out
    · cases u1
      · have HR : Hid (R = none) := Lib.hid (by rw [← HW.out]; unfold rpW; rw [HO.out]; rfl)
        go_wp2
        go_ret2
        exact rdp_none HR.out B1.out
      · have HR : Hid (R = some (x', y')) := Lib.hid (by
          obtain ⟨p, hp⟩ := Option.isSome_iff_exists.1 U0.out
          obtain ⟨q, hq⟩ := Option.isSome_iff_exists.1 U1.out
          rw [← HW.out]; unfold rpW; rw [HO.out, Hx.out p hp, Hy.out q hq]
          simp [rdV, hp, hq, rnV])
        go_wp2
        go_ret2
        exact rdp_some HR.out B1.out
  · have h2i : ((ws.length : Int) != 2) = true := by
      have : ¬ ((ws.length : Int) = 2) := by omega
      simpa using this
    have hR : R = none := by rw [← HW.out]; unfold rpW; rw [if_neg h2]
    have HR := Lib.hid hR
    clear hR h2
    go_wp2
    go_ret2
    exact rdp_none HR.out B1.out
set_option maxHeartbeats 4000000 in
theorem walk_FnExactReadPoint (t : ByteArray) (wt : t.size ≤ maxLen) (w : World) (hT : TbAt w) (hE : TeAt w) (hM : TmAt w) :
    Calls Tryd.prog 3 #[.string t] w fun e w' => e = .returned (.bool true) ∧ Below w.heap.size w w' := by
  have HT := Lib.hid hT; have HE := Lib.hid hE; have HM := Lib.hid hM
  clear hT hE hM
  unfold maxLen at wt
  by_cases hz : 1048576 < (t.size : Int)
  · go_enter Tryd.func3, Tryd.ntmps3
    go_wp2
    go_ret
    exact ⟨rfl, Below.refl _ _⟩
  · have hs : t.size ≤ 1048576 := by omega
    have L1 := Lib.hid (specReadPoint_any t hs w)
    have L2 := Lib.hid (fun W h1 h2 h3 => implReadPoint_any t hs W h1 h2 h3)
    unfold RdP at L1 L2
    generalize rpX (rpP t.data.toList) = X at *
    generalize rpY (rpP t.data.toList) = Y at *
    generalize rpK (rpP t.data.toList) = K at *
    have r1 := fun w => run_wideC (P := Tryd.prog) w 22 26 X Y (by rw [Tryd.underlying22]; rfl) Tryd.underlying26
    have LQ := Lib.hid (fun w w2 u u2 W => sc_cvt (a := X) (a' := X) (b := Y) (b' := Y) rfl rfl w w2 u u2 W)
    clear hs
    go_enter Tryd.func3, Tryd.ntmps3
    go_wp2_with fail
    refine L1.out.mono ?_
    rintro e w1 ⟨rfl, b1⟩
    have B1 := Lib.hid b1
    clear b1
    go_wp2_with fail
    refine (L2.out _ (HT.out.below B1.out) (HE.out.below B1.out) (HM.out.below B1.out)).mono ?_
    rintro e w3 ⟨rfl, b3⟩
    have B3 := Lib.hid (b_then B1.out b3)
    clear b3
    go_wp2_with fail
    refine (LQ.out _ _ _ _ _).mono ?_
    rintro e w5 ⟨rfl, rfl⟩
    go_wp2
    go_ret
    refine ⟨rfl, ?_⟩
    repeat (first | exact B3.out | refine b_drewN ?_ _ | refine b_drew ?_)
end Go.Proofs.YtdbcblfinflieaaDoor
