/-
  Any number that the bytes stand for; a target that they stand for.
-/
import Derived.Test.YtjkgiknklkfipaaSrd
import Derived.Test.YtjkgiknklkfipaaOff
namespace Go.Proofs.Ytjkgiknklkfipaa
open Go.RowKit Go.ChangeShapes Go.WideShapes Go.Deep
attribute [local go_sem ↓] Go.wp_at_zero Go.wp_at_succ
set_option linter.unusedVariables false
set_option linter.unusedSimpArgs false
set_option maxRecDepth 100000
/-- The call returns a number; all blocks but q keep. -/
def AnyF (q : Nat) (w : World) (e : Ending) (w' : World) : Prop := ∃ r : Nat, e = .returned (.float .f32 r) ∧ r < 4294967296 ∧ Kp q w w'
theorem frombits32 (b : Int) (w : World) : (callFunc 83 #[.int .u32 b]).run Try.prog w = .ok (.value (.float .f32 b.toNat)) w := by
  rw [run_callFunc_extern (fn := Try.f83) (e := Extern.MathFloatBits.float32frombits) Try.func83 (by kernel_rfl) (by kernel_rfl) (by kernel_rfl) (by kernel_rfl)]
  rfl
theorem frombits64 (b : Int) (w : World) : (callFunc 126 #[.int .u64 b]).run Try.prog w = .ok (.value (.float .f64 b.toNat)) w := by
  rw [run_callFunc_extern (fn := Try.f126) (e := Extern.MathFloatBits.float64frombits) Try.func126 (by kernel_rfl) (by kernel_rfl) (by kernel_rfl) (by kernel_rfl)]
  rfl
theorem Src.lt {w : World} {q B : Nat} {A : Option Addr} {n c p : Nat} {zs : List Int} (h : Src w q B A n c p zs) : q < w.heap.size := by
  obtain ⟨sd, k, _⟩ := h
  exact Blk.lt k
theorem Src.on {w w' : World} {q B : Nat} {A : Option Addr} {n c p : Nat} {zs : List Int} (h : Src w q B A n c p zs) (b : Below w.heap.size w w') : Src w' q B A n c p zs := by
  obtain ⟨sd, k, hb, hl, hB, r⟩ := h
  have hlt := Blk.lt k
  exact ⟨sd, (b.block q hlt).trans k, hb.below b (by omega), hl, hB, r⟩
theorem Kp.put {q : Nat} {a w w1 : World} (h : Kp q a w) (b : Below a.heap.size w w1) : Kp q a w1 := ⟨h.1.trans (b.mono (Nat.zero_le _)), Nat.le_trans h.2.1 b.size, fun k hk hq => (b.block k hk).trans (h.2.2 k hk hq)⟩
theorem u32_lt (z : Int) : (IntKind.u32.wrap z).toNat < 4294967296 := by
  have h : IntKind.u32.wrap z = z % 4294967296 := by simp [IntKind.wrap, IntKind.bits, IntKind.signed]
  rw [h]
  omega
theorem fint_lt (n : Int) : floatOfInt .f32 n < 4294967296 := write_lt (.number (decide (n < 0)) n.natAbs 0) rfl
def nanTo32 (w : World) : Nat := Question.cut (.nanConv .f32 9221120237041090561) (w.tape w.drawn (.nanConv .f32 9221120237041090561))
theorem nanTo32_lt (w : World) : nanTo32 w < 4294967296 := by
  unfold nanTo32 Question.cut
  generalize w.tape w.drawn (.nanConv .f32 9221120237041090561) = t
  have h1 : t / 2 % (2 ^ 23 - 1) < 2 ^ 23 - 1 := Nat.mod_lt _ (by decide)
  have h2 : t % 2 < 2 := Nat.mod_lt _ (by decide)
  show ((t % 2) * 2 ^ 31 + 0x7f800000 + 1 + (t / 2) % (2 ^ 23 - 1)) < 4294967296
  revert h1 h2
  generalize t / 2 % (2 ^ 23 - 1) = q
  generalize t % 2 = s
  intro h1 h2
  rcases (by omega : s = 0 ∨ s = 1) with rfl | rfl <;> omega
theorem nan_dec : ∃ s f, FloatKind.f64.decode 9221120237041090561 = .nan s f := by
  have h : (FloatKind.f64.decode 9221120237041090561).isNaN = true := by decide +kernel
  cases hd : FloatKind.f64.decode 9221120237041090561 with
  | nan s f => exact ⟨s, f, rfl⟩
  | infinity s => rw [hd] at h; cases h
  | number s m e => rw [hd] at h; cases h
theorem run_nan_narrow (w : World) : (convert 35 24 (.float .f64 9221120237041090561)).run Try.prog w = .ok (.float .f32 (nanTo32 w)) w.drew := by
  obtain ⟨s, f, hq⟩ := nan_dec
  have hs : Try.prog.underlying 35 = some (.float .f64) := Try.underlying35
  simp [convert, run_underlying hs, run_underlying Try.underlying24, Conv.floatToFloat, hq, nanTo32, choose]
  all_goals rfl
theorem nan_any (w : World) : Calls Try.prog 110 #[] w fun e w' => e = .returned (.float .f64 9221120237041090561) ∧ w = w' := by
  have hb := fun w => frombits64 9221120237041090561 w
  go_enter Try.func110, Try.ntmps110
  go_wp2
  go_ret
  exact ⟨rfl, rfl⟩
theorem inf_any (w : World) : Calls Try.prog 111 #[.int .i64 1] w fun e w' => e = .returned (.float .f64 9218868437227405312) ∧ w = w' := by
  have hb := fun w => frombits64 9218868437227405312 w
  go_enter Try.func111, Try.ntmps111
  go_wp2
  go_ret
  exact ⟨rfl, rfl⟩
theorem ninf_any (w : World) : Calls Try.prog 111 #[.int .i64 (-1)] w fun e w' => e = .returned (.float .f64 18442240474082181120) ∧ w = w' := by
  have hb := fun w => frombits64 18442240474082181120 w
  go_enter Try.func111, Try.ntmps111
  go_wp2
  go_ret
  exact ⟨rfl, rfl⟩
theorem inf_n : floatToFloatBits .f64 9218868437227405312 .f32 = some 2139095040 := by decide +kernel
theorem ninf_n : floatToFloatBits .f64 18442240474082181120 .f32 = some 4286578688 := by decide +kernel
/-- As 'pick', for greater numbers. -/
theorem pick_big {w : World} {q B : Nat} {A : Option Addr} {n c p : Nat} {zs : List Int} (h : Src w q B A n c p zs) (hp : p ≤ 900000) (k : Int) (hk : k ≤ 1073741824) :
    Calls Try.prog 70 #[.pointer (some ⟨q, 0, none⟩), .int .i64 k] w fun e w' => ∃ x : Int, (0 ≤ x ∧ x ≤ 1073741823) ∧ e = .returned (.int .i64 x) ∧ ∃ p', p' ≤ p + 2 ∧ Src w' q B A n c p' zs ∧ Kp q w w' := by
  have HS := Lib.hid h; clear h
  go_enter Try.func70, Try.ntmps70
  by_cases h1 : k ≤ 1
  · go_wp2
    go_ret
    exact ⟨0, ⟨by omega, by omega⟩, rfl, p, by omega, HS.out, Kp.refl _ _⟩
  · have h0 : ¬ k = 0 := by omega
    by_cases h2 : k > 200
    · go_wp2_with (first
        | (go_at_call 104; refine (next_any HS.out (by omega)).mono ?_; rintro e w1 ⟨x, x0, x1, rfl, s1, k1⟩; have S1 := Lib.hid s1; have K1 := Lib.hid k1; clear s1 k1 HS
           have g1 : IntKind.i64.wrap (x * 256) = x * 256 := IntWalk.i64_in _ (by omega))
        | (go_at_call 104; refine (next_any S1.out (by omega)).mono ?_; rintro e w2 ⟨y, y0, y1, rfl, s2, k2⟩; have S2 := Lib.hid s2; have K2 := Lib.hid k2; clear s2 k2
           have g2 : IntKind.i64.wrap (x * 256 + y) = x * 256 + y := IntWalk.i64_in _ (by omega)
           have g3 : IntKind.i64.wrap ((x * 256 + y).tmod k) = (x * 256 + y).tmod k := IntWalk.i64_in _ (by have := Int.tmod_lt_of_pos (x * 256 + y) (show 0 < k by omega); have := Int.tmod_nonneg k (show 0 ≤ x * 256 + y by omega); omega)))
      go_ret
      have t1 := Int.emod_lt_of_pos (x * 256 + y) (show 0 < k by omega); have t2 := Int.emod_nonneg (x * 256 + y) h0
      have t3 := Int.tmod_lt_of_pos (x * 256 + y) (show 0 < k by omega); have t4 := Int.tmod_nonneg k (show 0 ≤ x * 256 + y by omega)
      refine ⟨_, ?_, rfl, p + 1 + 1, by omega, S2.out, K1.out.trans K2.out⟩
      first | exact ⟨t2, by omega⟩ | exact ⟨t4, by omega⟩
    · go_wp2_with (first
        | (go_at_call 104; refine (next_any HS.out (by omega)).mono ?_; rintro e w1 ⟨x, x0, x1, rfl, s1, k1⟩; have S1 := Lib.hid s1; have K1 := Lib.hid k1; clear s1 k1 HS
           have g3 : IntKind.i64.wrap (x.tmod k) = x.tmod k := IntWalk.i64_in _ (by have := Int.tmod_lt_of_pos x (show 0 < k by omega); have := Int.tmod_nonneg k x0; omega)))
      go_ret
      have t1 := Int.emod_lt_of_pos x (show 0 < k by omega); have t2 := Int.emod_nonneg x h0
      have t3 := Int.tmod_lt_of_pos x (show 0 < k by omega); have t4 := Int.tmod_nonneg k x0
      refine ⟨_, ?_, rfl, p + 1, by omega, S1.out, K1.out⟩
      first | exact ⟨t2, by omega⟩ | exact ⟨t4, by omega⟩
theorem one_any {w : World} {q B : Nat} {A : Option Addr} {n c p : Nat} {zs : List Int} (h : Src w q B A n c p zs) (hp : p ≤ 900000) (k : Int) (hk : k ≤ 1000000) :
    Calls Try.prog 81 #[.pointer (some ⟨q, 0, none⟩), .int .i64 k] w fun e w' => ∃ b : Bool, e = .returned (.bool b) ∧ ∃ p', p' ≤ p + 2 ∧ Src w' q B A n c p' zs ∧ Kp q w w' := by
  have HS := Lib.hid h; clear h
  go_enter Try.func81, Try.ntmps81
  go_wp2_with (go_at_call 70; refine (pick_any HS.out hp k hk).mono ?_; rintro e w1 ⟨x, x0, x1, rfl, p', hp', s1, k1⟩; have S1 := Lib.hid s1; have K1 := Lib.hid k1; clear s1 k1 x1)
  go_ret
  exact ⟨_, rfl, p', hp', S1.out, K1.out⟩
theorem few_any {w : World} {q B : Nat} {A : Option Addr} {n c p : Nat} {zs : List Int} (h : Src w q B A n c p zs) (hp : p ≤ 900000) :
    Calls Try.prog 112 #[.pointer (some ⟨q, 0, none⟩)] w (AnyF q w) := by
  obtain ⟨R, N, hR, hC, hB⟩ := ops_funb Try.prog 24; have rq := hR .quo rfl; have hm := Lib.hid (hB .quo rfl); clear hC hR hB
  have HS := Lib.hid h; clear h
  go_enter Try.func112, Try.ntmps112
  go_wp2_with (go_at_call 70; refine (pick_any HS.out hp _ (by omega)).mono ?_; rintro e w1 ⟨x, x0, x1, rfl, p', hp', s1, k1⟩; have K1 := Lib.hid k1; clear s1 k1; have x2 : x ≤ 64 := by omega)
  go_ret
  exact ⟨_, rfl, hm.out _ _ _, K1.out.drewN _⟩
theorem among3_any {w : World} {q B : Nat} {A : Option Addr} {n c p : Nat} {zs : List Int} (h : Src w q B A n c p zs) (hp : p ≤ 900000) (a b d : Int) :
    Calls Try.prog 84 #[.pointer (some ⟨q, 0, none⟩), .slice (some ⟨w.heap.size, 0, none⟩) 3 3] (w.alloc (.cells #[.int .i64 a, .int .i64 b, .int .i64 d] 2)) fun e w' => ∃ x : Int, e = .returned (.int .i64 x) ∧ Kp q w w' := by
  have B1 : Below w.heap.size w (w.alloc (.cells #[.int .i64 a, .int .i64 b, .int .i64 d] 2)) := b_alloc (Below.refl _ _) _
  refine (among_any (h.on B1) hp [a, b, d] rfl (Nat.succ_pos 2) (by show 3 ≤ 1000000; decide) (by simp) (by have := h.lt; omega) (fun i z hz => ?_)).mono ?_
  · have k := Blk.new w #[.int .i64 a, .int .i64 b, .int .i64 d] 2
    rw [k.cell i]
    match i, hz with
    | 0, hz => simp at hz; subst hz; rfl
    | 1, hz => simp at hz; subst hz; rfl
    | 2, hz => simp at hz; subst hz; rfl
  · rintro e w' ⟨x, _, rfl, p', _, _, k1⟩
    exact ⟨x, rfl, (Kp.of B1).trans k1⟩
set_option maxHeartbeats 4000000 in
theorem any_any {w : World} {q B : Nat} {A : Option Addr} {n c p : Nat} {zs : List Int} (h : Src w q B A n c p zs) (hp : p ≤ 800000) :
    Calls Try.prog 82 #[.pointer (some ⟨q, 0, none⟩)] w (AnyF q w) := by
  obtain ⟨R, N, hR, hC, hB⟩ := ops_funb Try.prog 24; have rq := hR .quo rfl; have hm := Lib.hid (hB .quo rfl); clear hC hR hB
  have HS := Lib.hid h; clear h
  have cn1 := fun w => run_nan_narrow w
  have cn2 := fun w => run_convert_float_float (P := Try.prog) w 35 24 .f64 .f32 _ _ (by rw [Try.underlying35]; rfl) Try.underlying24 inf_n
  have cn3 := fun w => run_convert_float_float (P := Try.prog) w 35 24 .f64 .f32 _ _ (by rw [Try.underlying35]; rfl) Try.underlying24 ninf_n
  have fb := frombits32
  go_enter Try.func82, Try.ntmps82
  go_wp2_with (first
    | (go_at_call 70; refine (pick_any HS.out (by omega) _ (by omega)).mono ?_; rintro e w1 ⟨x, x0, x1, rfl, p1, hp1, s1, k1⟩; have S1 := Lib.hid s1; have K1 := Lib.hid k1; clear s1 k1 HS)
    | (go_at_call 70; refine (pick_big S1.out (by omega) _ (by omega)).mono ?_; rintro e w2 ⟨y, y0, rfl, p2, hp2, s2, k2⟩; have S2 := Lib.hid s2; have K2 := Lib.hid (K1.out.trans k2); clear s2 k2 S1)
    | (go_at_call 70; refine (pick_any S2.out (by omega) _ (by omega)).mono ?_; rintro e w3 ⟨z, z0, z1, rfl, p3, hp3, s3, k3⟩; have K3 := Lib.hid (K2.out.trans k3); clear s3 k3 S2)
    | (go_at_call 110; refine (nan_any _).mono ?_; rintro e w4 ⟨rfl, rfl⟩)
    | (go_at_call 111; (first | (with_reducible refine (inf_any _).mono ?_) | (with_reducible refine (ninf_any _).mono ?_)); rintro e w4 ⟨rfl, rfl⟩)
    | (go_at_call 84; refine (among3_any S1.out (by omega) _ _ _).mono ?_; rintro e w5 ⟨y, rfl, k5⟩; have K5 := Lib.hid (K1.out.trans k5); clear k5 S1)
    | (go_at_call 112; refine (few_any S1.out (by omega)).mono ?_; rintro e w6 ⟨r, rfl, hr, k6⟩; have K6 := Lib.hid (K1.out.trans k6); clear k6 S1))
  all_goals
    go_ret
    refine ⟨_, rfl, ?_, ?_⟩
    · first | assumption | exact hm.out _ _ _ | exact u32_lt _ | exact fint_lt _ | exact nanTo32_lt _ | omega
    · repeat (first | exact K6.out | exact K5.out | exact K3.out | exact K2.out | exact K1.out | refine Kp.drewN ?_ _ | refine Kp.drew ?_)
set_option maxHeartbeats 4000000 in
theorem aim_any {w : World} {q B : Nat} {A : Option Addr} {n c p : Nat} {zs : List Int} (h : Src w q B A n c p zs) (hp : p ≤ 700000) :
    Calls Try.prog 42 #[.pointer (some ⟨q, 0, none⟩)] w (AnyF q w) := by
  obtain ⟨R, N, hR, hC, hB⟩ := ops_funb Try.prog 24; have rq := hR .quo rfl; have hm := Lib.hid (hB .quo rfl); clear hC hR hB
  have HS := Lib.hid h; clear h
  have fb := frombits32
  go_enter Try.func42, Try.ntmps42
  go_wp2_with (first
    | (go_at_call 81; refine (one_any HS.out (by omega) _ (by omega)).mono ?_; rintro e w1 ⟨b, rfl, p1, hp1, s1, k1⟩; have S1 := Lib.hid s1; have K1 := Lib.hid k1; clear s1 k1 HS)
    | (go_at_call 82; refine (any_any S1.out (by omega)).mono ?_; rintro e w6 ⟨r, rfl, hr, k6⟩; have K6 := Lib.hid (K1.out.trans k6); clear k6 S1)
    | (go_at_call 70; refine (pick_big S1.out (by omega) _ (by omega)).mono ?_; rintro e w2 ⟨x, x0, rfl, p2, hp2, s2, k2⟩; have S2 := Lib.hid s2; have K2 := Lib.hid (K1.out.trans k2); clear s2 k2 S1)
    | (go_at_call 70; refine (pick_big S2.out (by omega) _ (by omega)).mono ?_; rintro e w3 ⟨y, y0, rfl, p3, hp3, s3, k3⟩; have S3 := Lib.hid s3; have K3 := Lib.hid (K2.out.trans k3); clear s3 k3 S2)
    | (go_at_call 70; refine (pick_big S3.out (by omega) _ (by omega)).mono ?_; rintro e w4 ⟨z, z0, rfl, p4, hp4, s4, k4⟩; have K4 := Lib.hid (K3.out.trans k4); clear s4 k4 S3)
    | (go_at_call 84; refine (among3_any S2.out (by omega) _ _ _).mono ?_; rintro e w5 ⟨y, rfl, k5⟩; have K5 := Lib.hid (K2.out.trans k5); clear k5 S2))
  all_goals
    go_ret
    refine ⟨_, rfl, ?_, ?_⟩
    · first | assumption | exact hm.out _ _ _ | exact u32_lt _ | exact fint_lt _ | omega
    · repeat (first | exact K6.out | exact K5.out | exact K4.out | exact K3.out | exact K2.out | exact K1.out | refine Kp.drewN ?_ _ | refine Kp.drew ?_)
/-- A target that the bytes stand for. -/
theorem target_any {w : World} {A : Option Addr} {n c : Nat} {zs : List Int} (h : ByIn w A n c zs) :
    Calls Try.prog 8 #[.slice A n c] w fun e w' => ∃ a : Nat, e = .returned (.float .f32 a) ∧ tgB a = true ∧ a < 4294967296 ∧ Below w.heap.size w w' := by
  have hT := fun a w => l05Target_any a w
  have HT := Lib.hid hT
  have H := Lib.hid h
  clear hT h
  go_enter Try.func8, Try.ntmps8
  go_wp2_with fail
  refine (from_any H.out).mono ?_
  rintro e w1 ⟨rfl, s1, b1, l1⟩
  have S1 := Lib.hid s1; have B1 := Lib.hid b1; clear s1 b1
  go_wp2_with fail
  refine (aim_any S1.out (by omega)).mono ?_
  rintro e w2 ⟨r, rfl, hr, k2⟩
  have B2 : Hid (Below w.heap.size w w2) := Lib.hid (B1.out.trans (k2.below (Nat.le_refl _) (by omega)))
  clear k2
  obtain ⟨tb, htb⟩ : ∃ t, tgB r = t := ⟨_, rfl⟩
  have hT2 := HT.out r
  rw [htb] at hT2
  have HT2 := Lib.hid hT2; have HB := Lib.hid htb
  clear hT2 htb
  cases tb
  · go_wp2_with (go_at_call 44; refine (HT2.out _).mono ?_; rintro e w3 ⟨rfl, rfl⟩)
    go_ret
    exact ⟨_, rfl, by decide +kernel, by decide, B2.out⟩
  · go_wp2_with (go_at_call 44; refine (HT2.out _).mono ?_; rintro e w3 ⟨rfl, rfl⟩)
    go_ret
    exact ⟨r, rfl, HB.out, hr, B2.out⟩
end Go.Proofs.Ytjkgiknklkfipaa
