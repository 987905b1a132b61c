/-
  A stone read from its text: the program's and the model's.
-/
import Derived.Test.YtkkcihgnpephiaaDoorTsa
import Derived.StillTailTactics
namespace Go.Proofs.YtkkcihgnpephiaaDoor
open Go.RowKit Go.ChangeShapes Go.WideShapes Go.Deep
attribute [local go_sem ↓] Go.wp_at_zero Go.wp_at_succ
set_option linter.unusedVariables false
set_option linter.unusedSimpArgs false
set_option maxRecDepth 100000
theorem splitK_short (b : UInt8) : ∀ (k : Nat) (s x : List UInt8), x ∈ Lib.splitK [b] 0 k s → x.length ≤ s.length
  | 0, s, x, h => by simp [Lib.splitK] at h; subst h; exact Nat.le_refl _
  | k + 1, s, x, h => by
    by_cases hb : b ∈ s
    · obtain ⟨y, z, h1, rfl⟩ := first_of b s hb
      rw [splitK_hit b k y z h1] at h
      rcases List.mem_cons.1 h with rfl | h
      · simp
      · have := splitK_short b k z x h
        simp; omega
    · rw [splitK_miss b (k + 1) s hb] at h
      simp at h; subst h; exact Nat.le_refl _
theorem splitN_short {b : UInt8} {n : Nat} {s x : List UInt8} (h : x ∈ Lib.splitN s [b] n) : x.length ≤ s.length := splitK_short b _ s x h
theorem splitN_pos (b : UInt8) (n : Nat) (s : List UInt8) (hn : 1 ≤ n) : 0 < (Lib.splitN s [b] n).length ∧ (Lib.splitN s [b] n).length ≤ n := by
  rw [splitN_length b n s hn]
  have := List.length_pos_iff.2 (spl_ne b s)
  omega
theorem rdV_len (l : List (List UInt8)) : (rdV l).length = l.length := by simp [rdV]
def mkS (l : List Nat) : Sn := ⟨l.getD 0 0, l.getD 1 0, l.getD 2 0, l.getD 3 0⟩
def rsW (ws : List (List UInt8)) : Option Sn := if ws.length = 4 then (if okAll ws then (if okS (mkS (rdV ws)) then some (mkS (rdV ws)) else none) else none) else none
def rsS (l : List UInt8) : Option Sn := rsW (spl 47 l)
theorem rsW_split (l : List UInt8) : rsW (Lib.splitN l [47] 5) = rsS l := by
  unfold rsS
  by_cases h : (spl 47 l).length ≤ 5
  · rw [splitN_few 47 5 l (by decide) h]
  · have h1 : (Lib.splitN l [47] 5).length = 5 := (splitN_many 47 5 l (by decide) (by omega)).1
    unfold rsW
    rw [if_neg (by omega), if_neg (by omega)]
theorem ret4 {fn : Func} {tmps : Array Value} {W : World} {q s t : Nat} {x0 x1 x2 x3 : Value} (hr : fn.results = #[.cell s 53, .tmp t]) (h2 : tmps.getD s undef = .pointer (some ⟨q, 0, none⟩)) (Z : Blk W q #[x0, x1, x2, x3] 53) :
    (results fn tmps).run Tryd.prog W = .ok (.tuple #[.agg #[x0, x1, x2, x3], tmps.getD t undef]) W := by
  have e0 := Z.cell 0
  have e1 := Z.cell 1
  have e2 := Z.cell 2
  have e3 := Z.cell 3
  simp at e0 e1 e2 e3
  rw [Array.getD_eq_getD_getElem?] at h2
  simp [results, hr, h2, go_sem, e0, e1, e2, e3]
def snD (r : Option Sn) : Sn := r.getD ⟨0, 0, 0, 0⟩
def snK (r : Option Sn) : Int := if r.isSome then 0 else 5
/-- The call returns a stone, and a code. -/
def RdS (r : Option Sn) (w : World) (e : Ending) (w' : World) : Prop := e = .returned (.tuple #[.agg #[.float .f32 (snD r).d, .float .f32 (snD r).r, .float .f32 (snD r).b, .float .f32 (snD r).g], .int .i64 (snK r)]) ∧ Below w.heap.size w w'
theorem rds_none {w w' : World} {r : Option Sn} (h : r = none) (b : Below w.heap.size w w') : RdS r w (.returned (.tuple #[.agg #[.float .f32 0, .float .f32 0, .float .f32 0, .float .f32 0], .int .i64 5])) w' := by subst h; exact ⟨rfl, b⟩
theorem rds_some {w w' : World} {r : Option Sn} {T : Sn} (h : r = some T) (b : Below w.heap.size w w') : RdS r w (.returned (.tuple #[.agg #[.float .f32 T.d, .float .f32 T.r, .float .f32 T.b, .float .f32 T.g], .int .i64 0])) w' := by subst h; exact ⟨rfl, b⟩
theorem rgN_step {b2 o2 x0 x1 x2 x3 q : Nat} {w W w' : World} (h : W.cell? ⟨b2, o2, none⟩ = some (.float .f32 x0) ∧ W.cell? ⟨b2, o2 + 1, none⟩ = some (.float .f32 x1) ∧ W.cell? ⟨b2, o2 + 2, none⟩ = some (.float .f32 x2) ∧ W.cell? ⟨b2, o2 + 3, none⟩ = some (.float .f32 x3) ∧ Hid (Blk W q #[.float .f32 0, .float .f32 0, .float .f32 0, .float .f32 0] 53) ∧ Hid (Below w.heap.size w W)) (b : Below W.heap.size W w') : w'.cell? ⟨b2, o2, none⟩ = some (.float .f32 x0) ∧ w'.cell? ⟨b2, o2 + 1, none⟩ = some (.float .f32 x1) ∧ w'.cell? ⟨b2, o2 + 2, none⟩ = some (.float .f32 x2) ∧ w'.cell? ⟨b2, o2 + 3, none⟩ = some (.float .f32 x3) ∧ Hid (Blk w' q #[.float .f32 0, .float .f32 0, .float .f32 0, .float .f32 0] 53) ∧ Hid (Below w.heap.size w w') :=
  ⟨cell_on h.1 rfl b, cell_on h.2.1 rfl b, cell_on h.2.2.1 rfl b, cell_on h.2.2.2.1 rfl b, Lib.hid (h.2.2.2.2.1.out.on rfl b), Lib.hid (b_then h.2.2.2.2.2.out b)⟩
set_option maxHeartbeats 4000000 in
theorem implReadStone_any (t : ByteArray) (hs : t.size ≤ 1048576) (w : World) (hT : TbAt w) (hE : TeAt w) (hM : TmAt w) : Calls Tryd.prog 39 #[.string t] w (RdS (rsS t.data.toList) w) := by
  have b0 := b_alloc (Below.refl _ w) (.cells #[.float .f32 0, .float .f32 0, .float .f32 0, .float .f32 0] 53)
  have HS := Lib.hid (splitN_any t 47 5 (by decide) (by decide) hs (w.alloc (.cells #[.float .f32 0, .float .f32 0, .float .f32 0, .float .f32 0] 53)) (hM.below b0))
  have K0 := Lib.hid (Blk.new w #[.float .f32 0, .float .f32 0, .float .f32 0, .float .f32 0] 53)
  have HT := Lib.hid (hT.below b0); have HE := Lib.hid (hE.below b0); have B0 := Lib.hid b0
  have hw := rsW_split t.data.toList
  have hp := splitN_pos 47 5 t.data.toList (by decide)
  have hsh : ∀ x ∈ Lib.splitN t.data.toList [47] 5, x.length ≤ 1048576 := fun x hx => Nat.le_trans (splitN_short hx) (by rw [← Lib.size_eq]; exact hs)
  have HW := Lib.hid hw; have Hsh := Lib.hid hsh
  obtain ⟨hp1, hp2⟩ := hp
  clear hT hE hM b0 hw hsh
  generalize Lib.splitN t.data.toList [47] 5 = ws at *
  generalize rsS t.data.toList = R at *
  go_enter Tryd.func39, Tryd.ntmps39
  go_wp2_with fail
  refine HS.out.mono ?_
  rintro e w1 ⟨v1, rfl, hst, b1⟩
  have ST := Lib.hid hst
  have K1 := Lib.hid (K0.out.on rfl b1)
  have HT1 := Lib.hid (HT.out.below b1); have HE1 := Lib.hid (HE.out.below b1); have B1 := Lib.hid (b_then B0.out b1)
  obtain ⟨b, o, c, rfl, hb, hlc, hcm, hcell⟩ := hst
  clear hcell HS HT HE B0 K0 b1
  by_cases h4 : ws.length = 4
  · have h4i : ((ws.length : Int) == 4) = true := by rw [h4]; rfl
    have HN := Lib.hid (readNums_any _ ws hp1 (by omega) Hsh.out w1 ST.out HT1.out HE1.out)
    have H4 := Lib.hid h4
    clear h4
    go_wp2_with fail
    refine HN.out.mono ?_
    rintro e w2 ⟨hif, b2⟩
    have K2 := Lib.hid (K1.out.on rfl b2)
    have B2 := Lib.hid (b_then B1.out b2)
    clear b2 h4i HN K1 B1 HT1 HE1 ST
    cases hok : okAll ws
    · rw [hok] at hif
      obtain rfl := hif
      have hR : R = none := by rw [← HW.out]; unfold rsW; rw [if_pos H4.out, hok]; rfl
      have HR := Lib.hid hR
      (have k0 := K2.out.cell 0; have k1 := K2.out.cell 1; have k2 := K2.out.cell 2; have k3 := K2.out.cell 3; simp at k0 k1 k2 k3; have f0 := K2.out.frozenT 0; have f1 := K2.out.frozenT 1; have f2 := K2.out.frozenT 2; have f3 := K2.out.frozenT 3)
      clear hok hR
      go_wp2
      refine bodyPost_ret (ret4 Tryd.results39 rfl ((((K2.out.set 0 _).set 1 _).set 2 _).set 3 _)) rfl (rds_none HR.out ?_)
      (refine Below.setCell (p := ⟨w.heap.size, 3, none⟩) ?_ (Nat.le_refl _) _; refine Below.setCell (p := ⟨w.heap.size, 2, none⟩) ?_ (Nat.le_refl _) _; refine Below.setCell (p := ⟨w.heap.size, 1, none⟩) ?_ (Nat.le_refl _) _; refine Below.setCell (p := ⟨w.heap.size, 0, none⟩) ?_ (Nat.le_refl _) _)
      exact B2.out
    · rw [hok] at hif
      obtain ⟨v2, he, hfl⟩ := hif
      subst he
      have hlen : (rdV ws).length = 4 := by rw [rdV_len]; exact H4.out
      obtain ⟨x0, x1, x2, x3, hx⟩ := l4_of hlen
      have hR : R = if okS ⟨x0, x1, x2, x3⟩ then some ⟨x0, x1, x2, x3⟩ else none := by rw [← HW.out]; unfold rsW; rw [if_pos H4.out, hok, if_pos rfl, hx]; rfl
      have HR0 := Lib.hid hR
      rw [hx] at hfl
      obtain ⟨b2, o2, c2, rfl, hb2, hlc2, hcm2, hcell2⟩ := hfl
      have a0 : w2.cell? ⟨b2, o2, none⟩ = some (.float .f32 x0) := hcell2 0 x0 rfl; have a1 := hcell2 1 x1 rfl; have a2 := hcell2 2 x2 rfl; have a3 := hcell2 3 x3 rfl
      have hl4 : ([x0, x1, x2, x3] : List Nat).length = 4 := rfl
      rw [hl4] at hlc2 ⊢
      have LV := Lib.hid (fun W => validStone_any ⟨x0, x1, x2, x3⟩ W)
      clear hok hR hcell2 hlen hx hl4
      go_wp2
      have C2 : w2.cell? ⟨b2, o2, none⟩ = some (.float .f32 x0) ∧ w2.cell? ⟨b2, o2 + 1, none⟩ = some (.float .f32 x1) ∧ w2.cell? ⟨b2, o2 + 2, none⟩ = some (.float .f32 x2) ∧ w2.cell? ⟨b2, o2 + 3, none⟩ = some (.float .f32 x3) ∧ Hid (Blk w2 w.heap.size #[.float .f32 0, .float .f32 0, .float .f32 0, .float .f32 0] 53) ∧ Hid (Below w.heap.size w w2) := ⟨a0, a1, a2, a3, K2, B2⟩
      go_region_held3 (fun w' => w'.cell? ⟨b2, o2, none⟩ = some (.float .f32 x0) ∧ w'.cell? ⟨b2, o2 + 1, none⟩ = some (.float .f32 x1) ∧ w'.cell? ⟨b2, o2 + 2, none⟩ = some (.float .f32 x2) ∧ w'.cell? ⟨b2, o2 + 3, none⟩ = some (.float .f32 x3) ∧ Hid (Blk w' w.heap.size #[.float .f32 0, .float .f32 0, .float .f32 0, .float .f32 0] 53) ∧ Hid (Below w.heap.size w w'))
        (first
          | exact rgN_step C2 (b_drew (Below.refl _ _))
          | exact rgN_step C2 (b_alloc (Below.refl _ _) _)
          | exact rgN_step C2 (b_drew (b_alloc (Below.refl _ _) _))
          | assumption)
        (first | fail)
      clear a0 a1 a2 a3 C2
      go_wp2_with fail
      refine (LV.out _).mono ?_
      rintro e w3 ⟨rfl, b3⟩
      have b23 : Below w2.heap.size w2 w3 := b_then (b_drew (b_alloc (Below.refl _ _) _)) b3
      have N3 := Lib.hid (Blk.on (Blk.new w2 #[.float .f32 x0, .float .f32 x1, .float .f32 x2, .float .f32 x3] 53) rfl (b_then (b_drew (Below.refl _ _)) b3))
      have K3 := Lib.hid (K2.out.on rfl b23)
      have B3 := Lib.hid (b_then B2.out b23)
      clear b3 b23 K2 B2 LV
      have K2 := K3
      have B2 := B3
      clear K3 B3
      (have k0 := K2.out.cell 0; have k1 := K2.out.cell 1; have k2 := K2.out.cell 2; have k3 := K2.out.cell 3; simp at k0 k1 k2 k3; have f0 := K2.out.frozenT 0; have f1 := K2.out.frozenT 1; have f2 := K2.out.frozenT 2; have f3 := K2.out.frozenT 3)
      have n0 := N3.out.cell 0; have n1 := N3.out.cell 1; have n2 := N3.out.cell 2; have n3 := N3.out.cell 3
      simp at n0 n1 n2 n3
      cases hv : okS ⟨x0, x1, x2, x3⟩
      · have hR := HR0.out
        rw [hv] at hR
        have HR : Hid (R = none) := Lib.hid hR
        clear hv hR
        go_wp2
        refine bodyPost_ret (ret4 Tryd.results39 rfl ((((K2.out.set 0 _).set 1 _).set 2 _).set 3 _)) rfl (rds_none HR.out ?_)
        (refine Below.setCell (p := ⟨w.heap.size, 3, none⟩) ?_ (Nat.le_refl _) _; refine Below.setCell (p := ⟨w.heap.size, 2, none⟩) ?_ (Nat.le_refl _) _; refine Below.setCell (p := ⟨w.heap.size, 1, none⟩) ?_ (Nat.le_refl _) _; refine Below.setCell (p := ⟨w.heap.size, 0, none⟩) ?_ (Nat.le_refl _) _)
        exact B2.out
      · have hR := HR0.out
        rw [hv] at hR
        have HR : Hid (R = some ⟨x0, x1, x2, x3⟩) := Lib.hid hR
        clear hv hR
        go_wp2
        refine bodyPost_ret (ret4 Tryd.results39 rfl ((((K2.out.set 0 _).set 1 _).set 2 _).set 3 _)) rfl (rds_some (T := ⟨x0, x1, x2, x3⟩) HR.out ?_)
        (refine Below.setCell (p := ⟨w.heap.size, 3, none⟩) ?_ (Nat.le_refl _) _; refine Below.setCell (p := ⟨w.heap.size, 2, none⟩) ?_ (Nat.le_refl _) _; refine Below.setCell (p := ⟨w.heap.size, 1, none⟩) ?_ (Nat.le_refl _) _; refine Below.setCell (p := ⟨w.heap.size, 0, none⟩) ?_ (Nat.le_refl _) _)
        exact B2.out
  · have h4i : ((ws.length : Int) != 4) = true := by
      have : ¬ ((ws.length : Int) = 4) := by omega
      simpa using this
    have hR : R = none := by rw [← HW.out]; unfold rsW; rw [if_neg h4]
    have HR := Lib.hid hR
    have K2 := K1
    have B2 := B1
    (have k0 := K2.out.cell 0; have k1 := K2.out.cell 1; have k2 := K2.out.cell 2; have k3 := K2.out.cell 3; simp at k0 k1 k2 k3; have f0 := K2.out.frozenT 0; have f1 := K2.out.frozenT 1; have f2 := K2.out.frozenT 2; have f3 := K2.out.frozenT 3)
    clear hR h4 K1 B1
    go_wp2
    refine bodyPost_ret (ret4 Tryd.results39 rfl ((((K2.out.set 0 _).set 1 _).set 2 _).set 3 _)) rfl (rds_none HR.out ?_)
    (refine Below.setCell (p := ⟨w.heap.size, 3, none⟩) ?_ (Nat.le_refl _) _; refine Below.setCell (p := ⟨w.heap.size, 2, none⟩) ?_ (Nat.le_refl _) _; refine Below.setCell (p := ⟨w.heap.size, 1, none⟩) ?_ (Nat.le_refl _) _; refine Below.setCell (p := ⟨w.heap.size, 0, none⟩) ?_ (Nat.le_refl _) _)
    exact B2.out
end Go.Proofs.YtkkcihgnpephiaaDoor
