/-
  How many choices are near to a target: the model's.
-/
import Derived.Test.YtaodpopghacmaaaChn
namespace Go.Proofs.Ytaodpopghacmaaa
open Go.RowKit Go.ChangeShapes Go.WideShapes Go.Deep
attribute [local go_sem ↓] Go.wp_at_zero Go.wp_at_succ
set_option linter.unusedVariables false
set_option linter.unusedSimpArgs false
set_option maxRecDepth 100000
/-- A choice is near. -/
def nrC (off : (Nat × Nat) × (Nat × Nat) → Nat) (x : Nat) (y : (Nat × Nat) × (Nat × Nat)) : Bool := oLe (off y) x
/-- How many are near. -/
def ccN (zs : List Int) (n t x : Nat) (K : Int) : Nat := if K = 0 then ((chU n).filter (nrC (offX zs t) x)).length else 0
theorem ret_2c {fn : Func} {tmps : Array Value} {W : World} {a b : Nat} (hr : fn.results = #[.tmp a, .tmp b]) : (results fn tmps).run Try.prog W = .ok (.tuple #[tmps.getD a undef, tmps.getD b undef]) W := by
  simp [results, hr, go_sem]
set_option maxHeartbeats 8000000 in
theorem specCount_any (A : Option Addr) (n c : Nat) (zs : List Int) (t x : Nat) (w : World) (hl : zs.length = n) (hn : n ≤ 1048576) (hw : ∀ z ∈ zs, I16 z) (hT : Ii w w.heap.size A zs) {K0 : Int} (hK0 : codeX (okZ zs) (tgB t && ptB x) = K0) :
    Calls Try.prog 34 #[.slice A n c, .float .f32 t, .float .f32 x] w (RV (.tuple #[.int .i64 (ccN zs n t x K0 : Int), .int .i64 K0]) w) := by
  obtain ⟨R, hR⟩ : ∃ R, ccN zs n t x K0 = R := ⟨_, rfl⟩
  have HR := Lib.hid hR
  rw [hR]
  clear hR
  have hB0 := fun W (h : Ii W W.heap.size A zs) => l05Asked_any A n c zs t x W hl hn hw h
  unfold askK at hB0
  simp only [hK0] at hB0
  have hB := Lib.hid hB0
  have HT := Lib.hid hT
  clear hB0 hT
  rcases codeX_cases hK0 with rfl | rfl | rfl
  rotate_left
  · have hr := HR.out
    rw [show ccN zs n t x 1 = 0 from rfl] at hr
    subst hr
    clear HR hK0
    go_enter Try.func34, Try.ntmps34
    go_wp2_with fail
    refine (hB.out _ HT.out).mono ?_
    rintro e w1 ⟨rfl, b1⟩
    go_wp2
    exact bodyPost_ret (ret_2c Try.results34) rfl ⟨rfl, b1⟩
  · have hr := HR.out
    rw [show ccN zs n t x 2 = 0 from rfl] at hr
    subst hr
    clear HR hK0
    go_enter Try.func34, Try.ntmps34
    go_wp2_with fail
    refine (hB.out _ HT.out).mono ?_
    rintro e w1 ⟨rfl, b1⟩
    go_wp2
    exact bodyPost_ret (ret_2c Try.results34) rfl ⟨rfl, b1⟩
  · obtain ⟨hz, htx⟩ := codeX_zero hK0
    obtain ⟨ht, hx⟩ := (Bool.and_eq_true _ _).mp htx
    have hlen := (okZ_at hz).1
    rw [hl] at hlen
    obtain ⟨hn2, hn24⟩ := hlen
    have wn : IntKind.i16.wrap (n : Int) = (n : Int) := i16_small _ (by omega) (by omega)
    have hC := fun W => l05Choices_any n hn24 W
    have HR2 : Hid (((chU n).filter (nrC (offX zs t) x)).length = R) := HR.out
    obtain ⟨ps, hps⟩ : ∃ ps, chU n = ps := ⟨_, rfl⟩
    have Hmem := Lib.hid (fun y (hy : y ∈ ps) => (show Wn n y from chU_mem (by rw [hps]; exact hy)))
    have hpl : ps.length < 4294967296 := by
      rw [← hps]
      have h1 := chC_len (prU_576 hn24) (prU n n 0)
      have h2 := prU_576 hn24
      show (chC _ _).length < _
      omega
    rw [hps] at hC HR2
    have HC2 := Lib.hid hC
    have Hoff := Lib.hid (fun y (hy : Wn n y) => offX_num hz ht (x := y) (by rw [hl]; exact hy))
    have HOD : Hid (∀ y, offC (facC zs y) t = offX zs t y) := Lib.hid fun y => rfl
    have HZ := Lib.hid hz; have Hl := Lib.hid hl
    have HF := Lib.hid (fun (y : (Nat × Nat) × (Nat × Nat)) (hy : Wn n y) (W : World) (hb : Below w.heap.size w W) => specFac_any A n c zs y W Hl.out hn HZ.out hy (HT.out.keep hb))
    clear HR hK0 hC hz ht hx htx hw hps
    obtain ⟨off, hoff⟩ : ∃ off, offX zs t = off := ⟨_, rfl⟩
    rw [hoff] at Hoff HOD HR2
    clear hoff
    go_enter Try.func34, Try.ntmps34
    go_wp2_with fail
    refine (hB.out _ HT.out).mono ?_
    rintro e w1 ⟨rfl, b1⟩
    go_wp2_with fail
    refine (HC2.out _).mono ?_
    rintro e w2 ⟨v, rfl, o2, b2⟩
    obtain ⟨A2, c2, rfl, hcc⟩ : ∃ A2 c2, v = .slice A2 ps.length c2 ∧ (0 < ps.length → ∃ g, A2 = some ⟨g, 0, none⟩ ∧ g < w2.heap.size ∧ CcIn w2 g ps) := by
      by_cases h0 : 0 < ps.length
      · obtain ⟨g, c2, rfl, h1, h2, h3⟩ := cc_of_row o2 h0
        exact ⟨_, _, rfl, fun _ => ⟨g, rfl, h2, h3⟩⟩
      · have e0 : ps.length = 0 := by omega
        obtain ⟨_, h2⟩ := o2
        rw [e0] at h2 ⊢
        rcases h2 with ⟨rfl, _⟩ | ⟨g, cap, cur, rfl, _⟩
        · exact ⟨_, _, rfl, fun h => absurd h (by omega)⟩
        · exact ⟨_, _, rfl, fun h => absurd h (by omega)⟩
    have B2 := Lib.hid (b_then b1 b2)
    have HCC := Lib.hid hcc
    clear b1 b2 o2 hcc
    go_wp2_with fail
    go_loopw [9, 11] (fun v9 v11 wr => ∃ (i : Nat), i ≤ ps.length ∧ v11 = .int .i64 i ∧ v9 = .int .i64 (((ps.take i).filter (nrC off x)).length : Nat) ∧ Hid (Below w2.heap.size w2 wr)) (fun _ v11 _ => ps.length - (intOf v11).toNat)
    case atStart => exact ⟨0, Nat.zero_le _, rfl, rfl, Lib.hid (Below.refl _ _)⟩
    case round =>
      obtain ⟨i, hi, rfl, rfl, hB3⟩ := hrel
      by_cases hlt : i < ps.length
      · obtain ⟨y, hy⟩ : ∃ y, ps[i]? = some y := ⟨_, List.getElem?_eq_getElem hlt⟩
        obtain ⟨g, rfl, hg, hcc⟩ := HCC.out (by omega)
        obtain ⟨p0, p1, p2, p3⟩ := (hcc.under hB3.out hg) i y hy
        have hm := Hmem.out y (List.mem_of_getElem? hy)
        have hst : ps.take (i + 1) = ps.take i ++ [y] := by rw [List.take_add_one, hy]; rfl
        have HST := Lib.hid hst
        have li : (i : Int) < (ps.length : Int) := by omega
        have i0 : (0 : Int) ≤ (i : Int) := by omega
        have hcl : ((ps.take i).filter (nrC off x)).length ≤ i := by
          have h1 := List.length_filter_le (nrC off x) (ps.take i)
          rw [List.length_take] at h1
          omega
        clear hst hy hcc
        obtain ⟨k, hk⟩ : ∃ k, ((ps.take i).filter (nrC off x)).length = k := ⟨_, rfl⟩
        rw [hk] at hcl
        simp only [hk]
        have HK := Lib.hid hk
        clear hk
        go_wp2_with fail
        refine (HF.out y hm _ (b_then B2.out hB3.out)).mono ?_
        rintro e w5 ⟨rfl, b5⟩
        have B5 := Lib.hid (b_then hB3.out b5)
        clear b5 p0 p1 p2 p3
        go_wp2_with fail
        refine (specOff_any _ _ _).mono ?_
        rintro e w6 ⟨r, rfl, hr, b6⟩
        have hr : r = off y := cn_eq_fix (hr.trans (HOD.out y)) (Hoff.out y hm).1.1
        have B6 := Lib.hid (b_then B5.out b6)
        clear b6 B5 hB3 hm
        obtain ⟨tb, htb⟩ : ∃ tb, oLe r x = tb := ⟨_, rfl⟩
        have HS3 : Hid (((ps.take (i + 1)).filter (nrC off x)).length = if tb = true then k + 1 else k) := Lib.hid (by
          rw [HST.out, List.filter_append, List.length_append, HK.out]
          have e : nrC off x y = tb := by unfold nrC; rw [← hr]; exact htb
          cases tb <;> simp [e])
        have e0 : (FloatKind.f32.format.order r x == some .lt || FloatKind.f32.format.order r x == some .eq) = tb := htb
        clear hr htb HST HK
        cases tb
        · have HS4 : Hid (((ps.take (i + 1)).filter (nrC off x)).length = k) := HS3
          clear HS3
          go_wp2
          exact ⟨⟨i + 1, by omega, by go_num, by rw [HS4.out], B6⟩, by simp [intOf]; omega⟩
        · have HS4 : Hid (((ps.take (i + 1)).filter (nrC off x)).length = k + 1) := HS3
          clear HS3
          go_wp2
          exact ⟨⟨i + 1, by omega, by go_num, by rw [HS4.out]; go_num, B6⟩, by simp [intOf]; omega⟩
      · obtain rfl : i = ps.length := by omega
        have li : ¬ (ps.length : Int) < (ps.length : Int) := by omega
        have hr := HR2.out
        rw [List.take_length, hr]
        go_wp2
        exact bodyPost_ret (ret_2c Try.results34) rfl ⟨rfl, b_then B2.out hB3.out⟩
end Go.Proofs.Ytaodpopghacmaaa
