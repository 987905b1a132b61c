/-
  A line of discs drawn from the source: the walk.
-/
import Derived.Test.YtaodpopghacmaaaDoorDsa
namespace Go.Proofs.YtaodpopghacmaaaDoor
open Go.RowKit Go.ChangeShapes Go.WideShapes Go.Deep Go.Joins
attribute [local go_sem ↓] Go.wp_at_zero Go.wp_at_succ
set_option linter.unusedVariables false
set_option linter.unusedSimpArgs false
set_option maxRecDepth 100000
/-- A valid line of 2 to 5 discs, of its own. -/
def RDs (q : Nat) (w : World) (e : Ending) (w' : World) : Prop := ∃ v ds, e = .returned v ∧ w'.ownsRow w.heap.size 54 2 v ds.length (cellsD ds) ∧ 2 ≤ ds.length ∧ ds.length ≤ 5 ∧ (∀ d ∈ ds, okD d = true ∧ d.wf) ∧ Kp q w w'
theorem Kp.grown {q : Nat} {a w w' : World} {row : Option Nat} (h : Kp q a w) (hg : w.grownBy w' row) (hr : ∀ k, row = some k → a.heap.size ≤ k) : Kp q a w' :=
  ⟨h.1.grown hg (Nat.zero_le _) (fun _ _ => Nat.zero_le _), Nat.le_trans h.2.1 hg.size, fun k hk hq => (hg.block k (Nat.lt_of_lt_of_le hk h.2.1) (fun e => by have := hr k e.symm; omega)).trans (h.2.2 k hk hq)⟩
theorem src_grown {w w' : World} {row : Option Nat} {q B base : Nat} {A : Option Addr} {n c p : Nat} {zs : List Int} (h : Src w q B A n c p zs) (hg : w.grownBy w' row) (hr : ∀ k, row = some k → base ≤ k) (hq : q < base) : Src w' q B A n c p zs :=
  h.kp (B := B) ((Below.refl _ _).grown hg h.lt (fun k e => by have := hr k e; omega))
theorem Kp.setO {q b : Nat} {a w : World} (h : Kp q a w) (hb : a.heap.size ≤ b) (i : Nat) (v : Value) : Kp q a (w.setCell ⟨b, i, none⟩ v) :=
  ⟨b_set h.1 (Nat.zero_le _) _ _, by have := h.2.1; simpa using this, fun k hk hq => (Below.heap_setCell w ⟨b, i, none⟩ v k (show k ≠ b by omega)).trans (h.2.2 k hk hq)⟩
theorem own_kp2 {q base : Nat} {w w' : World} {e : TypeId} {size : Nat} {v : Value} {n : Nat} {xs : List Value} (h : w.ownsRow base e size v n xs) (k : Kp q w w') (hq : ∀ k, v.ownBlock = some k → k ≠ q) : w'.ownsRow base e size v n xs := by
  have hlt := own_base h
  rcases h with ⟨h1, h2 | ⟨g, cap, cur, rfl, h3, h4, rest⟩⟩
  · exact ⟨h1, .inl h2⟩
  · exact ⟨h1, .inr ⟨g, cap, cur, rfl, h3, (k.2.2 g (hlt g rfl).2 (hq g rfl)).trans h4, rest⟩⟩
theorem among3 {w : World} {q B : Nat} {A : Option Addr} {n c p : Nat} {zs : List Int} (h : Src w q B A n c p zs) (hp : p ≤ 900000) (a b d : Int) :
    Calls Tryd.prog 37 #[.pointer (some ⟨q, 0, none⟩), .slice (some ⟨w.heap.size, 0, none⟩) 3 3] (w.alloc (.cells #[.int .i64 a, .int .i64 b, .int .i64 d] 2)) fun e w' => ∃ x : Int, x ∈ [a, b, d] ∧ e = .returned (.int .i64 x) ∧ ∃ p', p' ≤ p + 2 ∧ Src w' q B A n c p' zs ∧ Kp q w w' := by
  refine (among_any (h.on (b_alloc (Below.refl _ _) _)) hp [a, b, d] rfl (Nat.succ_pos 2) (by show 3 ≤ 1000000; decide) (by simp) (by have := h.lt; omega) (fun i z hz => ?_)).mono ?_
  · rw [(Blk.new w #[.int .i64 a, .int .i64 b, .int .i64 d] 2).cell i]
    match i, hz with
    | 0, hz => simp at hz; simp [hz]
    | 1, hz => simp at hz; simp [hz]
    | 2, hz => simp at hz; simp [hz]
    | i + 3, hz => simp at hz
  · rintro e w' ⟨x, hx, rfl, p', hp', s, k⟩
    exact ⟨x, hx, rfl, p', hp', s, (Kp.of (b_alloc (Below.refl _ _) _)).trans k⟩
theorem discs_any {w : World} {q B : Nat} {A : Option Addr} {n c : Nat} {zs : List Int} (h : Src w q B A n c 0 zs) :
    Calls Tryd.prog 16 #[.pointer (some ⟨q, 0, none⟩)] w (RDs q w) := by
  obtain ⟨i0, hi, hz0, hz1, hz2⟩ := info_parts Dc.info
  have Hi := Lib.hid hi; have Hy0 := Lib.hid hz0; have Hy1 := Lib.hid hz1; have Hy2 := Lib.hid hz2
  have hql := h.lt
  have HS := Lib.hid h; clear h hi hz0 hz1 hz2
  go_enter Tryd.func16, Tryd.ntmps16
  go_wp2_with (go_at_call 36; refine (pick_any (HS.out.on (b_alloc (Below.refl _ _) _)) (by omega) 4 (by omega)).mono ?_; rintro e w1 ⟨x, x0, x1, rfl, p1, hp1, s1, k1⟩; have S1 := Lib.hid s1; have K1 := Lib.hid k1; clear s1 k1; obtain ⟨K, rfl⟩ := Int.eq_ofNat_of_zero_le x0; have hK := Lib.hid (show K ≤ 3 by omega); clear x0 x1; have g1 : IntKind.i64.wrap (2 + (K : Int)) = 2 + (K : Int) := IntWalk.i64_in _ (by have := hK.out; omega))
  have O1 : Hid (w1.ownsRow w.heap.size 54 2 (.slice (some ⟨w.heap.size, 0, none⟩) 0 0) 0 (cellsD [])) := own_kp (own_empty w w.heap.size 54 2 (Nat.le_refl _)) K1.out hql
  have B1 : Hid (Kp q w w1) := (Kp.of (b_alloc (Below.refl _ _) _)).trans K1.out
  clear K1
  go_loopw [3, 4] (fun v vk wr => ∃ (j p : Nat) (ds : List Dc), vk = .int .i64 (2 + (K : Int) - j) ∧ j ≤ 2 + K ∧ ds.length = j ∧ p ≤ 2 + 8 * j ∧ Hid (wr.ownsRow w.heap.size 54 2 v j (cellsD ds)) ∧ Hid (Src wr q B A n c p zs) ∧ Hid (Kp q w wr) ∧ Hid (∀ d ∈ ds, okD d = true ∧ d.wf)) (fun _ vk _ => (intOf vk).toNat)
  case atStart => exact ⟨0, p1, [], by go_num, by omega, rfl, by omega, O1, S1, B1, fun d hd => by cases hd⟩
  case round =>
    obtain ⟨j, p, ds, rfl, hj, hl, hp, hO, hS, hB, hD⟩ := hrel
    have hKK := hK.out
    have HL := Lib.hid hl
    have g5 : IntKind.i64.wrap (2 + (K : Int) - (j : Int) - 1) = 2 + (K : Int) - (j : Int) - 1 := IntWalk.i64_in _ (by omega)
    by_cases hlt : j < 2 + K
    · have y0 : 2 + (K : Int) - (j : Int) > 0 := by omega
      have hwr := hB.out.2.1
      clear hl
      go_upto_region 6 with (first
        | (go_at_call 36; refine (pick_any hS.out (by omega) 20 (by omega)).mono ?_; rintro e w2 ⟨x, x0, x1, rfl, p2, hp2, s2, k2⟩; have S2 := Lib.hid s2; have K2 := Lib.hid k2; have X1 := Lib.hid x1; clear s2 k2 x1; have g2 : IntKind.i64.wrap (1 + x) = 1 + x := IntWalk.i64_in _ (by have := X1.out; omega))
        | (go_at_call 37; refine (among3 S2.out (by omega) 1 3 4).mono ?_; rintro e w3 ⟨y, hy, rfl, p3, hp3, s3, k3⟩; have S3 := Lib.hid s3; have K3 := Lib.hid k3; clear s3 k3; obtain ⟨r, hr, r1, r2, r3⟩ := iner x0 X1.out hy; have R1 := Lib.hid r1; have R2 := Lib.hid r2; have R3 := Lib.hid r3; have q1 := fun w => run_float_arith (P := Tryd.prog) w .quo 26 .f32 _ _ _ hr; clear r1 r2 r3 hy hr))
      have X3 : Hid (Kp q wr w3) := Lib.hid (K2.out.trans K3.out)
      have SW : Hid (w.heap.size ≤ w3.heap.size) := Lib.hid (by have := X3.out.2.1; omega)
      have D3 : Hid (Blk (w3.alloc (.cells #[.float .f32 r, .float .f32 0] 54)) w3.heap.size #[.float .f32 r, .float .f32 0] 54) := Lib.hid (Blk.new _ _ _)
      have T3 := Lib.hid (S3.out.on (b_alloc (Below.refl _ _) (.cells #[.float .f32 r, .float .f32 0] 54)))
      have Y3 : Hid (Kp q wr (w3.alloc (.cells #[.float .f32 r, .float .f32 0] 54))) := Lib.hid (X3.out.trans (Kp.of (b_alloc (Below.refl _ _) _)))
      have N3 : Hid (w3.heap.size ≠ q) := Lib.hid (by have := S3.out.lt; omega)
      have SB : Hid (wr.heap.size ≤ w3.heap.size) := Lib.hid X3.out.2.1
      have QB : Hid (q < w3.heap.size) := Lib.hid S3.out.lt
      clear K2 K3 S2 S3 q1 g2 X1 x0
      generalize w3.alloc (.cells #[.float .f32 r, .float .f32 0] 54) = W3 at *
      generalize w3.heap.size = b at *
      have hba := own_base hO.out
      have Hba := Lib.hid hba
      have Db := Lib.hid (D3.out.lt)
      clear hba
      go_upto_region 7 with (first
        | (go_at_call 36; refine (pick_any T3.out (by omega) 200 (by omega)).mono ?_; rintro e w4 ⟨x, x0, x1, rfl, p4, hp4, s4, k4⟩; have S4 := Lib.hid s4; have K4 := Lib.hid k4; have X1 := Lib.hid x1; clear s4 k4 x1; have g2 : IntKind.i64.wrap (1 + x) = 1 + x := IntWalk.i64_in _ (by have := X1.out; omega))
        | (go_at_call 37; refine (among3 S4.out (by omega) 1 3 8).mono ?_; rintro e w5 ⟨y, hy, rfl, p5, hp5, s5, k5⟩; have S5 := Lib.hid s5; have K5 := Lib.hid (K4.out.trans k5); clear s5 k5; obtain ⟨r', hr, r1, r2, r3⟩ := stif x0 X1.out hy; have R1' := Lib.hid r1; have R2' := Lib.hid r2; have R3' := Lib.hid r3; have q1 := fun w => run_float_arith (P := Tryd.prog) w .quo 26 .f32 _ _ _ hr; have D5 := Lib.hid (D3.out.kp K5.out N3.out); have c0 := D5.out.cell 0; have c1 := D5.out.cell 1; simp at c0 c1; have z0 := bk_frozen D5.out 0; have z1 := bk_frozen D5.out 1; clear r1 r2 r3 hy hr))
      have E5 := Lib.hid (Blk.set D5.out 1 (.float .f32 r'))
      have V5 : Hid (Kp q wr (w5.setCell ⟨b, 1, none⟩ (.float .f32 r'))) := Lib.hid ((Y3.out.trans K5.out).setO SB.out 1 _)
      have F5 : Hid (Src (w5.setCell ⟨b, 1, none⟩ (.float .f32 r')) q B A n c p5 zs) := Lib.hid (S5.out.kp ((Kp.set (Kp.refl b w5) 1 _).below (by have := QB.out; omega) (by have := S5.out.lt; omega)))
      have O5 : Hid ((w5.setCell ⟨b, 1, none⟩ (.float .f32 r')).ownsRow w.heap.size 54 2 u3 j (cellsD ds)) := Lib.hid (own_kp2 (own_kp hO.out (Y3.out.trans K5.out) hql) (Kp.set (Kp.refl b w5) 1 _) (fun k h => by have := (Hba.out k h).2; have := SB.out; omega))
      clear c0 c1 z0 z1 q1 g2 X1 x0 D5 K5 S5 K4 S4 D3 T3 Y3 X3
      generalize (w5.setCell ⟨b, 1, none⟩ (.float .f32 r')) = V at *
      have c0 := E5.out.cell 0; have c1 := E5.out.cell 1; simp at c0 c1
      have SV : Hid (w.heap.size ≤ V.heap.size) := Lib.hid (by have := V5.out.2.1; omega)
      have Hys : Hid ((Value.agg #[.float .f32 0, .float .f32 0]).cells.size = 2) := Lib.hid rfl
      go_wp2_with (at_builtin; go_loud (refine wpList_append_own _ rfl (.tmp 34) (.tmp 36) 24 rfl w.heap.size 54 i0 _ 2 8 Tryd.underlying24 Hi.out Hy0.out Hy1.out Hy2.out Hys.out (by omega) _ j _ rfl (O5.out.alloc _) _ 1 _ [_, _] rfl rfl (World.news_of_block (cs := #[_, _]) (Blk.new _ _ _)) (by intro u hu; simp at hu; rcases hu with rfl | rfl <;> rfl) (by unfold maxLen; omega) (by omega) (by have := SV.out; simp; omega) ?_); intro v9 w9 hown9 hgrow9 hif9)
      have Vb : Hid (Kp q w w9) := Lib.hid (((hB.out.trans V5.out).trans (Kp.of (b_alloc (Below.refl _ _) _))).grown hgrow9 (fun k h => (Hba.out k h).1))
      have Vs : Hid (Src w9 q B A n c p5 zs) := Lib.hid (src_grown (F5.out.on (b_alloc (Below.refl _ _) _)) hgrow9 (fun k h => (Hba.out k h).1) hql)
      have Vo : Hid (w9.ownsRow w.heap.size 54 2 v9 (j + 1) (cellsD (ds ++ [⟨r, r'⟩]))) := Lib.hid (by rw [cellsD_snoc]; exact hown9)
      have Vd : Hid (∀ d ∈ ds ++ [(⟨r, r'⟩ : Dc)], okD d = true ∧ d.wf) := Lib.hid (fun d hd => by
        rcases List.mem_append.1 hd with h | h
        · exact hD.out d h
        · simp at h
          subst h
          exact ⟨by unfold okD; simp only [R1.out, R2.out, R1'.out, R2'.out, Bool.and_self], R3.out, R3'.out⟩)
      clear hgrow9 hown9 c0 c1
      go_wp2
      go_roundw
      case rel => exact ⟨j + 1, p5, ds ++ [⟨r, r'⟩], by go_num, by omega, by simp [HL.out], by omega, Vo, Vs, Vb, Vd⟩
      case measure => simp [intOf]; omega
    · have y0 : ¬ 2 + (K : Int) - (j : Int) > 0 := by omega
      go_wp2
      go_ret
      exact ⟨_, ds, rfl, by rw [HL.out]; exact hO.out, by have := HL.out; omega, by have := HL.out; omega, hD.out, hB.out⟩
end Go.Proofs.YtaodpopghacmaaaDoor
