/-
  All choices of four wheels: the program's iterator, which ranges over pairs within pairs.
-/
import Derived.Test.YtaodpopghacmaaaChl
import Derived.Test.YtaodpopghacmaaaRo
namespace Go.Proofs.Ytaodpopghacmaaa
open Go.RowKit Go.ChangeShapes Go.WideShapes Go.Deep Go.Shelf
attribute [local go_sem] Oper.semAt_some
set_option linter.unusedVariables false
set_option linter.unusedSimpArgs false
/-- What a round of the outer loop has: the boxes of both wheels. -/
def AxC (l n c B0 S : Nat) (A : Option Addr) (y : (Nat × Nat)) (a' : Act) (W : World) : Prop :=
  ∃ p : Nat, S + 2 ≤ p ∧ a' = { tmps := #[.func (.yield l) #[] #[], .pointer (some ⟨B0, 0, none⟩), .pointer (some ⟨S, 0, none⟩), .pointer (some ⟨p, 0, none⟩), .pointer (some ⟨p + 1, 0, none⟩), undef, undef, undef, .slice A n c, .func (.func 87) #[] #[.pointer (some ⟨S + 1, 0, none⟩)], .int .i16 (y.1 : Int), .int .i16 (y.2 : Int), undef, undef, undef, undef, undef, undef, undef, undef, undef, undef, undef, undef, undef, undef, undef, undef, undef, undef, undef, undef, undef, undef, undef, undef, undef, undef, undef, undef, undef, undef, undef, undef, undef], defers := [] } ∧ Boxed W p 47 (.int .i16 (y.1 : Int)) ∧ Boxed W (p + 1) 47 (.int .i16 (y.2 : Int))
/-- What the loops have in the boxes ahead of them. -/
structure ChB (l n c B0 S : Nat) (A : Option Addr) (W : World) : Prop where
  a : Boxed W B0 22 (.slice A n c)
  y : Boxed W S 114 (.func (.yield l) #[] #[])
  k : Boxed W (S + 1) 47 (.int .i16 (n : Int))
theorem bx_newC {k : Nat} {t : TypeId} {v : Value} (W : World) (h : W.heap.size = k) : Boxed (W.alloc (.cells #[v] t)) k t v := by subst h; exact Boxed.new W t v
theorem ChB.kept {l n c B0 S : Nat} {A : Option Addr} {W W' : World} {row : Option Nat} (h : ChB l n c B0 S A W) (hg : W.grownBy W' row) (hr : ∀ r, row = some r → ∃ o : Obj, W.heap[r]? = some o ∧ o.isCells = false) : ChB l n c B0 S A W' :=
  ⟨boxed_own _ _ (fun _ : Unit => _) () _ _ _ h.a hg hr, boxed_own _ _ (fun _ : Unit => _) () _ _ _ h.y hg hr, boxed_own _ _ (fun _ : Unit => _) () _ _ _ h.k hg hr⟩
theorem bx_kept {q : Nat} {t : TypeId} {v : Value} {W W' : World} {row : Option Nat} (h : Boxed W q t v) (hg : W.grownBy W' row) (hr : ∀ r, row = some r → ∃ o : Obj, W.heap[r]? = some o ∧ o.isCells = false) : Boxed W' q t v := boxed_own q t (fun _ : Unit => v) () W W' row h hg hr
theorem ChB.kc {x : Nat → Prop} {l n c B0 S : Nat} {A : Option Addr} {W W' : World} (h : ChB l n c B0 S A W) (hk : KC x W W') (h1 : ¬ x B0) (h2 : ¬ x S) (h3 : ¬ x (S + 1)) : ChB l n c B0 S A W' := ⟨hk.box h1 h.a, hk.box h2 h.y, hk.box h3 h.k⟩
theorem kf_below {B : Nat} {W W' : World} (h : Below W.heap.size W W') : KeepsFrom B W W' := ⟨h.size, fun k o _ hk _ => (h.block k (Array.getElem?_eq_some_iff.1 hk).1).trans hk⟩
theorem kf_ownX {β : Type} {X : Nat → Prop} {B B' : Nat} {w₀ : World} (hB : w₀.heap.size ≤ B') (hX : ∀ r, X r → r < B) : OwnX X B' (fun (_ : β) W => KeepsFrom B w₀ W) := fun _ C D row hs hg hr =>
  ⟨Nat.le_trans hs.size hg.size, fun k o hk h0 ho => by
    have hC := hs.same k o hk h0 ho
    refine (hg.block k (Array.getElem?_eq_some_iff.1 hC).1 (fun e => ?_)).trans hC
    have h2 := (Array.getElem?_eq_some_iff.1 h0).1
    rcases (hr k e.symm).1 with h | h
    · have := hX _ h; omega
    · omega⟩
theorem ch_len {n : Nat} (hn : n ≤ 24) {l l2 : List (Nat × Nat)} {p : Nat × Nat} (h : l.length < 576) (h2 : l2.length < 576) : (chC (prU n n 0) l ++ rowC p l2).length < 331776 := by
  have a := chC_len (prU_576 hn) l
  have b := rowC_len p l2
  rw [List.length_append]
  omega
/-- How the outer loop is left. -/
def IxO (n : Nat) (Jx : List (ChT n) → World → Prop) (pre : List (TwP n)) (W : World) : Prop :=
  ∃ (cs : List (ChT n)) (l1 l2 : List (Nat × Nat)) (p : Nat × Nat), pre.map (·.1) = l1 ++ [p] ∧ l2 <+: prU n n 0 ∧ cs.map (·.1) = chC (prU n n 0) l1 ++ rowC p l2 ∧ Jx cs W
set_option maxRecDepth 100000 in
set_option maxHeartbeats 4000000 in
theorem choices_seq (n : Nat) (hn : n ≤ 24) (A : Option Addr) (c : Nat) (m : Nat) (x X : Nat → Prop) (w : World) (hm : w.heap.size = m) (B0 : Nat)
    (q0 : Boxed w B0 22 (.slice A n c)) (hx0 : ¬ x B0) (hxm : ∀ k, x k → k < m) (hXm : ∀ k, X k → k < m) :
    SeqX Fence.wide 8 Try.prog 95 #[.pointer (some ⟨B0, 0, none⟩)] (fun y : ChT n => #[chV y.1]) (KC x) X
      (fun xs => xs.map (·.1) = chU n) (fun pre => pre.map (·.1) <+: chU n) 331776 w := by
  intro l J Jx W hW hll hJ hJx hY h0
  refine callsIn_of_wp_marks Try.func95 rfl trivial ?_ rfl
  simp only [Try.ntmps95, List.size_toArray, List.length_cons, List.length_nil, Nat.reduceAdd, Nat.reduceSub, Array.replicate_succ, Array.replicate_zero, List.push_toArray, List.append_toArray, List.nil_append, List.cons_append]
  have b0 : Boxed W B0 22 (.slice A n c) := (hW.block B0 (by have := q0.lt; omega)).trans q0
  have HY := Lib.hid hY; have HJ := Lib.hid hJ; have HJx := Lib.hid hJx; have H0 := Lib.hid h0
  have hB0 : B0 < m := by have := q0.lt; omega
  have hmS : m ≤ W.heap.size := by have := hW.size; omega
  clear hY hJ hJx q0 h0 hW
  have ca := (b0.alloc (.cells #[.func (.yield l) #[] #[]] 114)).cell
  gi_wp2
  clear ca
  refine ⟨trivial, ?_⟩
  refine (pairs_in 7 A n c hn _).mono ?_
  rintro e w' ⟨rfl, rfl⟩
  gi_wp2
  obtain ⟨S, hS⟩ : ∃ S, W.heap.size = S := ⟨_, rfl⟩
  rw [hS] at hmS hll HJ HJx
  simp only [hS, World.size_alloc]
  obtain ⟨W0, hW0⟩ : ∃ W0, (W.alloc (.cells #[.func (.yield l) #[] #[]] 114)).alloc (.cells #[.int .i16 (n : Int)] 47) = W0 := ⟨_, rfl⟩
  have hsz : W0.heap.size = S + 2 := by rw [← hW0, ← hS]; simp
  have hB : ChB l n c B0 S A W0 := by
    rw [← hW0]
    exact ⟨(b0.alloc _).alloc _, (bx_newC _ hS).alloc _, bx_newC _ (by simp [hS])⟩
  have hJ0 : Hid (J [] W0) := by rw [← hW0]; exact HJ.out.new _ (HJ.out.new _ H0.out)
  try simp only [hW0]
  clear hW0 b0 H0
  have hseq := SeqStopsK.toX (pairs_stops 7 n hn (S + 2) (fun k => ¬ k = S + 1) W0 hsz (S + 1) hB.k (by simp) (by omega)) X
  have ownJ : ∀ {B : Nat}, S ≤ B → OwnX X B J := fun h => HJ.out.up h
  have ownJx : ∀ {B : Nat}, S ≤ B → OwnX X B Jx := fun h => HJx.out.up h
  refine range_at (α := TwP n) (X := X) rfl (by omega) (gf := 87) (lb := #[.pointer (some ⟨S + 1, 0, none⟩)]) rfl trivial (enters_of Try.func87 (by kernel_rfl) rfl)
    hseq (fun r h => by have := hXm r h; omega) Keep.trans (fun W l o o' hle ho hc hwk => keep_b W o o' (by omega) ho) (Below.refl _ _) (fun _ => rfl)
    (fun pre W => ∃ cs : List (ChT n), cs.map (·.1) = chC (prU n n 0) (pre.map (·.1)) ∧ J cs W ∧ ChB l n c B0 S A W ∧ S + 2 ≤ W.heap.size)
    (fun cd pre W => cd = .ret ∧ IxO n Jx pre W)
    ?ownI ?ownIx ⟨[], rfl, hJ0.out, hB, by omega⟩ (fun y a' W => AxC l n c B0 S A y.1 a' W) ?ownA ?assign ?body ?done ?stop
  case ownI =>
    rintro s C D row ⟨cs, h1, h2, h3, h4⟩ hg hr
    exact ⟨cs, h1, ownJ (by omega) cs C D row h2 hg hr, h3.kept hg (fun r e => (hr r e).2), Nat.le_trans h4 hg.size⟩
  case ownIx =>
    rintro cd s C D row ⟨h0, cs, l1, l2, p, h1, h2, h3, h4⟩ hg hr
    exact ⟨h0, cs, l1, l2, p, h1, h2, h3, ownJx (by omega) cs C D row h4 hg hr⟩
  case ownA =>
    rintro y a' _ C D row ⟨p, h0, h1, h2, h3⟩ hg hr
    exact ⟨p, h0, h1, bx_kept h2 hg (fun r e => (hr r e).2), bx_kept h3 hg (fun r e => (hr r e).2)⟩
  case assign =>
    rintro l1 pre y W2 K ⟨cs, h1, h2, h3, h4⟩ hK
    have HK := Lib.hid hK
    clear hK
    gi_wp2
    have bW : Below W2.heap.size W2 ((W2.alloc (.cells #[.int .i16 (y.1.1 : Int)] 47)).alloc (.cells #[.int .i16 (y.1.2 : Int)] 47)) := b_alloc (b_alloc (Below.refl _ _) _) _
    refine HK.out _ _ (kf_below bW) (Keep.below (bW.mono h4)) ⟨cs, h1, ?_, ?_, ?_⟩ ?_
    · exact (ownJ (Nat.le_refl _)).new _ ((ownJ (Nat.le_refl _)).new _ h2)
    · exact ⟨(h3.a.alloc _).alloc _, (h3.y.alloc _).alloc _, (h3.k.alloc _).alloc _⟩
    · have := bW.size; omega
    · refine ⟨W2.heap.size, h4, ?_, (bx_newC _ rfl).alloc _, bx_newC _ (by simp)⟩
      simp
  case body =>
    rintro l1 pre ⟨⟨a, b⟩, ha, hb, hab⟩ a' W2 hle ⟨r1, hr1⟩ ⟨cs, hcs, hJc, hBx, hs2⟩ ⟨p, hp, rfl, ba, bb⟩ hlen
    have ca := hBx.a.cell
    have hla := ba.lt; have hlb := bb.lt
    have HR1 := Lib.hid hr1; have HBX := Lib.hid hBx; have HJC := Lib.hid hJc; have HCS := Lib.hid hcs; have HLEN := Lib.hid hlen; have BA := Lib.hid ba; have BB := Lib.hid bb
    clear hr1 hBx hJc hcs hlen ba bb hseq
    gi_wp2_with fail
    refine ⟨trivial, ?_⟩
    refine (CallsIn.inRound l1 (pairs_in 5 A n c hn _)).mono ?_
    rintro e w' ⟨rfl, rfl⟩
    clear ca
    gi_wp2
    obtain ⟨T, hT⟩ : ∃ T, W2.heap.size = T := ⟨_, rfl⟩
    rw [hT] at hs2 hla hlb
    simp only [hT]
    obtain ⟨W3, hW3⟩ : ∃ W3, W2.alloc (.cells #[.int .i16 (n : Int)] 47) = W3 := ⟨_, rfl⟩
    have b23 : Below W2.heap.size W2 W3 := by rw [← hW3]; exact b_alloc (Below.refl _ _) _
    have hs3 : W3.heap.size = T + 1 := by rw [← hW3, ← hT]; simp
    have bT : Boxed W3 T 47 (.int .i16 (n : Int)) := by rw [← hW3]; exact bx_newC _ hT
    have hJ3 : J cs W3 := by rw [← hW3]; exact (ownJ (Nat.le_refl _)).new _ HJC.out
    try simp only [hW3]
    have hseq2 : SeqX (Fence.wide.inRound l1) 5 Try.prog 87 #[.pointer (some ⟨T, 0, none⟩)] (fun y : TwP n => #[.int .i16 (y.1.1 : Int), .int .i16 (y.1.2 : Int)]) (Keep (T + 1) (fun k => ¬ k = T)) X
      (fun xs => xs.map (·.1) = prU n n 0) (fun pre => pre.map (·.1) <+: prU n n 0) 576 W3 := SeqStopsK.toX (pairs_stops 5 n hn (T + 1) (fun k => ¬ k = T) W3 hs3 T bT (by simp) (by omega)) X
    have up : ∀ {q : Nat} {t : TypeId} {v : Value}, Boxed W2 q t v → Boxed W3 q t v := fun h => (b23.block _ h.lt).trans h
    refine range_in (α := TwP n) (X := X) (l₀ := l1) (r₀ := r1) rfl ((b23.block l1 (Array.getElem?_eq_some_iff.1 HR1.out).1).trans HR1.out) (by omega) (gf := 87) (lb := #[.pointer (some ⟨T, 0, none⟩)]) rfl trivial (enters_of Try.func87 (by kernel_rfl) rfl)
      hseq2 (fun r h => by have := hXm r h; omega) Keep.trans (fun W l o o' hle ho hc hwk => keep_b W o o' (by omega) ho) (Below.refl _ _) (fun _ => rfl)
      (fun pre2 W => ∃ cs2 : List (ChT n), cs2.map (·.1) = chC (prU n n 0) (pre.map (·.1)) ++ rowC (a, b) (pre2.map (·.1)) ∧ J cs2 W ∧ ChB l n c B0 S A W ∧ Boxed W p 47 (.int .i16 (a : Int)) ∧ Boxed W (p + 1) 47 (.int .i16 (b : Int)) ∧ Boxed W T 47 (.int .i16 (n : Int)) ∧ KeepsFrom (S + 2) W2 W ∧ T + 1 ≤ W.heap.size)
      (fun cd pre2 W => cd = .ret ∧ (∃ cs2 : List (ChT n), cs2.map (·.1) = chC (prU n n 0) (pre.map (·.1)) ++ rowC (a, b) (pre2.map (·.1)) ∧ Jx cs2 W) ∧ KeepsFrom (S + 2) W2 W)
      ?ownI2 ?ownIx2 ⟨cs, by rw [HCS.out]; simp [rowC], hJ3, ⟨up HBX.out.a, up HBX.out.y, up HBX.out.k⟩, up BA.out, up BB.out, bT, kf_below b23, by omega⟩
      (fun y a' _ => a' = { tmps := #[.func (.yield l) #[] #[], .pointer (some ⟨B0, 0, none⟩), .pointer (some ⟨S, 0, none⟩), .pointer (some ⟨p, 0, none⟩), .pointer (some ⟨p + 1, 0, none⟩), .int .i16 (y.1.1 : Int), .int .i16 (y.1.2 : Int), undef, .slice A n c, .func (.func 87) #[] #[.pointer (some ⟨S + 1, 0, none⟩)], .int .i16 (a : Int), .int .i16 (b : Int), .slice A n c, .func (.func 87) #[] #[.pointer (some ⟨T, 0, none⟩)], .int .i16 (y.1.1 : Int), .int .i16 (y.1.2 : Int), undef, undef, undef, undef, undef, undef, undef, undef, undef, undef, undef, undef, undef, undef, undef, undef, undef, undef, undef, undef, undef, undef, undef, undef, undef, undef, undef, undef, undef], defers := [] }) (fun _ _ _ _ _ _ hs _ _ => hs) ?assign2 ?body2 ?done2 ?stop2
    case ownI2 =>
      rintro s C D row ⟨cs2, h1, h2, h3, h4, h5, h6, h7, h8⟩ hg hr
      exact ⟨cs2, h1, ownJ (by omega) cs2 C D row h2 hg hr, h3.kept hg (fun r e => (hr r e).2), bx_kept h4 hg (fun r e => (hr r e).2), bx_kept h5 hg (fun r e => (hr r e).2), bx_kept h6 hg (fun r e => (hr r e).2),
        kf_ownX (β := Unit) (X := X) (by omega) (fun r h => by have := hXm r h; omega) () C D row h7 hg hr, Nat.le_trans h8 hg.size⟩
    case ownIx2 =>
      rintro cd s C D row ⟨h0, ⟨cs2, h1, h2⟩, h7⟩ hg hr
      exact ⟨h0, ⟨cs2, h1, ownJx (by omega) cs2 C D row h2 hg hr⟩, kf_ownX (β := Unit) (X := X) (by omega) (fun r h => by have := hXm r h; omega) () C D row h7 hg hr⟩
    case assign2 =>
      rintro l2 pre2 y W4 K hI hK
      have HK := Lib.hid hK
      have HI := Lib.hid hI
      clear hK hI
      gi_wp2
      exact HK.out _ _ (KeepsFrom.refl _ _) (Keep.refl _ _ _) HI.out rfl
    case body2 =>
      rintro l2 pre2 ⟨⟨c', d'⟩, hc', hd', hcd⟩ a' W4 hle2 _ ⟨cs2, h1, h2, h3, h4, h5, h6, h7, h8⟩ rfl hlen2
      have HX0 : Hid (¬ x B0) := Lib.hid hx0
      have HX1 : Hid (∀ k, m ≤ k → ¬ x k) := Lib.hid fun k hk hx => by have := hxm k hx; omega
      have H1 := Lib.hid h1; have H2 := Lib.hid h2; have H3 := Lib.hid h3; have H4 := Lib.hid h4; have H5 := Lib.hid h5; have H6 := Lib.hid h6; have H7 := Lib.hid h7
      have ka := h4.cell; have kb := h5.cell; have ky := h3.y.cell
      clear h1 h2 h3 h4 h5 h6 h7 hx0
      have Hgo : Hid (∀ b2, apt (a, b) (c', d') = b2 → (cs2.map (·.1) = chC (prU n n 0) (pre.map (·.1)) ++ rowC (a, b) ((pre2 ++ [(⟨(c', d'), hc', hd', hcd⟩ : TwP n)]).map (·.1))) ∨ b2 = true) := Lib.hid fun b2 h => by
        cases b2
        · refine .inl ?_
          rw [H1.out, List.map_append]
          exact congrArg _ (rowC_no h _).symm
        · exact .inr rfl
      have stay : apt (a, b) (c', d') = false → Hid (KeepsFrom W3.heap.size W4 W4 ∧ Keep (T + 1) (fun k => ¬ k = T) W4 W4 ∧ ∃ cs2 : List (ChT n), cs2.map (·.1) = chC (prU n n 0) (pre.map (·.1)) ++ rowC (a, b) ((pre2 ++ [(⟨(c', d'), hc', hd', hcd⟩ : TwP n)]).map (·.1)) ∧ J cs2 W4 ∧ ChB l n c B0 S A W4 ∧ Boxed W4 p 47 (.int .i16 (a : Int)) ∧ Boxed W4 (p + 1) 47 (.int .i16 (b : Int)) ∧ Boxed W4 T 47 (.int .i16 (n : Int)) ∧ KeepsFrom (S + 2) W2 W4 ∧ T + 1 ≤ W4.heap.size) := fun h => Lib.hid
        ⟨KeepsFrom.refl _ _, Keep.refl _ _ _, cs2, (Hgo.out _ h).resolve_right (by simp), H2.out, H3.out, H4.out, H5.out, H6.out, H7.out, h8⟩
      by_cases e1 : a = c'
      · have t1 : ((a : Int) != (c' : Int)) = false := by simp [e1]
        have HS := stay (apt_no (.inl e1))
        clear stay
        clear e1
        gi_wp2
        refine ⟨fun _ h => (by cases h), ?_⟩
        gi_wp2
        exact HS.out
      have t1 : ((a : Int) != (c' : Int)) = true := by simpa using (show ¬ ((a : Int) = (c' : Int)) by omega)
      by_cases e2 : a = d'
      · have t2 : ((a : Int) != (d' : Int)) = false := by simp [e2]
        have HS := stay (apt_no (.inr (.inl e2)))
        clear stay
        clear e2
        gi_wp2
        refine ⟨fun _ h => (by cases h), ?_⟩
        gi_wp2
        exact HS.out
      have t2 : ((a : Int) != (d' : Int)) = true := by simpa using (show ¬ ((a : Int) = (d' : Int)) by omega)
      by_cases e3 : b = c'
      · have t3 : ((b : Int) != (c' : Int)) = false := by simp [e3]
        have HS := stay (apt_no (.inr (.inr (.inl e3))))
        clear stay
        clear e3
        gi_wp2
        refine ⟨fun _ h => (by cases h), ?_⟩
        gi_wp2
        exact HS.out
      have t3 : ((b : Int) != (c' : Int)) = true := by simpa using (show ¬ ((b : Int) = (c' : Int)) by omega)
      by_cases e4 : b = d'
      · have t4 : ((b : Int) != (d' : Int)) = false := by simp [e4]
        have HS := stay (apt_no (.inr (.inr (.inr e4))))
        clear stay
        clear e4
        gi_wp2
        refine ⟨fun _ h => (by cases h), ?_⟩
        gi_wp2
        exact HS.out
      have t4 : ((b : Int) != (d' : Int)) = true := by simpa using (show ¬ ((b : Int) = (d' : Int)) by omega)
      have hap := apt_yes e1 e2 e3 e4
      clear stay e1 e2 e3 e4
      obtain ⟨fn, tmps, assign, body, hy, hR⟩ := HY.out cs2 ⟨((a, b), (c', d')), ha, hb, hc', hd', hab, hcd, hap⟩ W4 H2.out (by
        have := ch_len hn (l := pre.map (·.1)) (l2 := pre2.map (·.1)) (p := (a, b)) (by simpa using HLEN.out) (by simpa using hlen2)
        rw [← H1.out, List.length_map] at this
        exact this)
      dsimp only [chV] at hy
      have HM : Hid ((cs2 ++ [(⟨((a, b), (c', d')), ha, hb, hc', hd', hab, hcd, hap⟩ : ChT n)]).map (·.1) = chC (prU n n 0) (pre.map (·.1)) ++ rowC (a, b) ((pre2 ++ [(⟨(c', d'), hc', hd', hcd⟩ : TwP n)]).map (·.1))) := Lib.hid (by
        rw [List.map_append, List.map_append, H1.out, List.append_assoc]
        exact congrArg _ (rowC_yes hap _).symm)
      clear Hgo
      generalize cs2 ++ [(⟨((a, b), (c', d')), ha, hb, hc', hd', hab, hcd, hap⟩ : ChT n)] = cs3 at *
      clear hap
      gi_wp2
      refine (RoundIn.other (RoundIn.other (RoundIn.deep rfl _ hR))).mono ?_
      clear hR hy
      rintro e W5 (⟨rfl, hJ5, hk5, hf5⟩ | ⟨rfl, hJx5, hf5⟩)
      · have J5 := Lib.hid hJ5; have K5 := Lib.hid hk5; have F5 := Lib.hid hf5
        clear hJ5 hk5 hf5
        gi_wp2
        have k4 := K5.out.box (HX1.out T (by omega)) H6.out
        refine ⟨kf_up F5.out (by omega), ⟨K5.out.1, fun k hk hx => ?_⟩, cs3, HM.out, J5.out, H3.out.kc K5.out HX0.out (HX1.out _ (by omega)) (HX1.out _ (by omega)), K5.out.box (HX1.out _ (by omega)) H4.out, K5.out.box (HX1.out _ (by omega)) H5.out, k4, H7.out.trans (kf_up F5.out (by omega)), by have := K5.out.1; omega⟩
        obtain rfl : k = T := by simpa using hx
        exact k4.trans H6.out.symm
      · have J5 := Lib.hid hJx5; have F5 := Lib.hid hf5
        clear hJx5 hf5
        gi_wp2
        exact ⟨kf_up F5.out (by omega), rfl, ⟨cs3, HM.out, J5.out⟩, H7.out.trans (kf_up F5.out (by omega))⟩
    case done2 =>
      rintro xs W5 hS2 ⟨cs2, h1, h2, h3, h4, h5, h6, h7, h8⟩
      rw [hS2] at h1
      gi_wp2
      refine ⟨h7, ⟨h7.size, fun k hk hx => ?_⟩, cs2, ?_, h2, h3, by omega⟩
      · obtain rfl : k = S + 1 := by simpa using hx
        exact h3.k.trans HBX.out.k.symm
      · rw [h1, List.map_append]
        exact (chC_snoc _ _ _).symm
    case stop2 =>
      rintro cd pre2 W5 hS2 ⟨rfl, ⟨cs2, h1, h2⟩, h7⟩
      gi_wp2
      exact ⟨h7, rfl, cs2, pre.map (·.1), pre2.map (·.1), (a, b), by simp, hS2, h1, h2⟩
  case done =>
    rintro D ys W5 hD hS5 ⟨cs, h1, h2, h3, h4⟩ hK
    rw [hS5] at h1
    gi_wp2
    refine ⟨by simp, .inl ⟨_, _, rfl, run_takeDeferred hK, ?_⟩⟩
    exact ⟨_, results_none rfl _ _ _, ⟨⟨_, rfl⟩, .inl ⟨cs, h1, (ownJ (by omega)).turn _ h2 hD hK rfl⟩⟩⟩
  case stop =>
    rintro D cd pre W5 hD hS5 ⟨rfl, cs, l1, l2, q, h1, h2, h3, h4⟩ hK
    rw [h1] at hS5
    gi_wp2
    refine ⟨by simp, .inl ⟨_, _, rfl, run_takeDeferred hK, ?_⟩⟩
    exact ⟨_, results_none rfl _ _ _, ⟨⟨_, rfl⟩, .inr ⟨cs, by rw [h3]; exact ch_pre hS5 h2, (ownJx (by omega)).turn _ h4 hD hK rfl⟩⟩⟩
end Go.Proofs.Ytaodpopghacmaaa
