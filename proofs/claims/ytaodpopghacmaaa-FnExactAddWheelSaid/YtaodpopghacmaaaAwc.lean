/-
  The wheel that is best added: the model's.
-/
import Derived.Test.YtaodpopghacmaaaPtd
import Derived.Test.YtaodpopghacmaaaMc
import Derived.Test.YtaodpopghacmaaaAwn
import Derived.Test.YtaodpopghacmaaaAsk
import Derived.Scope
namespace Go.Proofs.Ytaodpopghacmaaa
open Go.RowKit Go.ChangeShapes Go.WideShapes Go.Deep
attribute [local go_sem ↓] Go.wp_at_zero Go.wp_at_succ
set_option linter.unusedVariables false
set_option linter.unusedSimpArgs false
set_option maxRecDepth 100000
/-- An append to a row of one's own, as a step of a region that draws its order. -/
theorem step_own {P : Program} {ops : Array Oper} {o : Oper} {a : Act} {w : World} {K : Act → World → Prop} {Q : Exit → Act → World → Prop} {E : Prop}
    (hg : o.guard = none) (s x : Operand) (t : TypeId) (hop : o.op = Op.call { callee := Callee.builtin Builtin.append, args := #[s, x], argTypes := #[t, t] })
    (base : Nat) (e : TypeId) (i : TypeInfo) (z : Value) (size bytes : Nat) (h1 : P.underlying t = some (.slice e)) (h2 : P.info? e = some i) (h3 : i.zero = some z) (h4 : i.size = size) (h5 : i.bytes = bytes) (h6 : z.cells.size = size) (h7 : 0 < size)
    (v : Value) (k : Nat) (xs : List Value) (hs : a.eval s = v) (hown : w.ownsRow base e size v k xs) (ad : Addr) (m c : Nat) (news : List Value) (hx : a.eval x = .slice (some ad) m c) (hn : news.length = m * size)
    (hc : ∀ j u, news[j]? = some u → w.cell? (ad.add j) = some u) (h1c : ∀ u ∈ news, u.oneCell' = true) (b1 : k + m ≤ maxLen) (b2 : (k + m) * bytes ≤ 140737488355328) (b3 : base ≤ w.heap.size)
    (hK : ∀ v' w', w'.ownsRow base e size v' (k + m) (xs ++ news) → w.grownBy w' v.ownBlock → K (a.put o.dst v') w') :
    if Region.wanted o (yielded ops a.tmps) = true then Oper.wp P o a w K Q else E := by
  have hw : Region.wanted o (yielded ops a.tmps) = true := by simp [Region.wanted, hg]
  rw [if_pos hw]
  obtain ⟨v', w', hrun, r1, r2, _⟩ := run_append_own (P := P) w base t o.type e i z size bytes h1 h2 h3 h4 h5 h6 h7 v k xs hown ad m c news hn hc h1c b1 b2 b3
  unfold Oper.wp
  simp [execOp, hop, resolve, invoke, builtin, hs, hx, hrun, Result.andThen]
  exact hK v' w' r1 r2
theorem own_at0 {W : World} {q base : Nat} {e : TypeId} {size : Nat} (h : W.heap[q]? = some (.cells #[] e (0, 0))) (hb : base ≤ q) : W.ownsRow base e size (.slice (some ⟨q, 0, none⟩) 0 0) 0 [] :=
  ⟨by simp, .inr ⟨q, 0, #[], rfl, hb, h, Nat.le_refl _, Nat.zero_le _, by simp, by simp⟩⟩
theorem int_one (l : List Int) : ∀ u ∈ l.map (Value.int .i16), u.oneCell' = true := fun u hu => by
  obtain ⟨z, _, rfl⟩ := List.mem_map.1 hu
  rfl
theorem new_at {X : World} {q : Nat} (h : X.heap.size = q) (o : Obj) : (X.alloc o).heap[q]? = some o := by
  subst h
  exact heap_alloc_new X o
theorem own_ins {w : World} {base n j : Nat} {v : Value} {zs : List Int} {T : Int} (h : w.ownsRow base 47 1 v (0 + j + 1 + (n - j)) ([] ++ (zs.take j).map (Value.int .i16) ++ [Value.int .i16 T] ++ (zs.drop j).map (Value.int .i16))) (hj : j ≤ n) : ∃ g cap, v = .slice (some ⟨g, 0, none⟩) (n + 1) cap ∧ Ii w w.heap.size (some ⟨g, 0, none⟩) (insZ zs j T) := by
  have e1 : 0 + j + 1 + (n - j) = n + 1 := by omega
  have e2 : [] ++ (zs.take j).map (Value.int .i16) ++ [Value.int .i16 T] ++ (zs.drop j).map (Value.int .i16) = (insZ zs j T).map (Value.int .i16) := by
    unfold insZ
    rw [List.map_append, List.map_append]
    rfl
  rw [e1, e2] at h
  exact ii_own h (by omega)
set_option maxHeartbeats 2000000 in
theorem specAdd_ok (A : Option Addr) (n c : Nat) (zs : List Int) (t : Nat) (w : World) (hl : zs.length = n) (hw : ∀ z ∈ zs, I16 z) (hz : okZ zs = true) (ht : tgB t = true) (ht2 : t < 4294967296) (hn24 : n < 24) (hc : n ≤ c) (hcm : c ≤ maxLen) (hT : Ii w w.heap.size A zs) :
    Calls Try.prog 19 #[.slice A n c, .float .f32 t] w (RV (.tuple #[.int .i64 (amS zs t 195).1, .float .f32 (amS zs t 195).2, .int .i64 0]) w) := by
  have hlen := (okZ_at hz).1
  rw [hl] at hlen
  have hn2 := hlen.1
  obtain ⟨i0, hi0, hz0, hz1, hz2⟩ := info_parts infoI16
  have hB0 := l05Asked_any A n c zs t 0 w hl (by omega) hw hT
  unfold askK at hB0
  rw [pt_zero, Bool.and_true, hz, ht] at hB0
  have HE : Hid (Calls Try.prog 47 #[.slice A n c, .float .f32 t, .float .f32 0] w (RV (.int .i64 0) w)) := hB0
  have HB := Lib.hid (fun (k : Nat) (hk : k < 195) (j : Nat) (hm : ¬ 6 + (k : Int) ∈ zs) (A : Option Addr) (c : Nat) (W : World) (h : Ii W W.heap.size A (insZ zs j (6 + (k : Int)))) => (show Calls Try.prog 58 #[.slice A (n + 1) c, .float .f32 t] W (fun e w' => ∃ p q : Int, e = .returned (.tuple #[.int .i64 p, .int .i64 q, .float .f32 (lsP zs t (6 + (k : Int)))]) ∧ Below W.heap.size W w') from by
    have h5 := l05Best_any A (n + 1) c (insZ zs j (6 + (k : Int))) t W (by rw [ins_len, hl]) (te_ins hz (by omega) (by omega) (by omega) j) ht h
    have h6 := (ls_same hz (by omega) ht ht2 (T := 6 + (k : Int)) (by omega) (by omega) hm j).1
    rw [hl] at h6
    have e2 : ∀ p, offM (insZ zs j (6 + (k : Int))) t p = offI (insZ zs j (6 + (k : Int))) t p := fun p => rfl
    have e3 : offM (insZ zs j (6 + (k : Int))) t = offI (insZ zs j (6 + (k : Int))) t := funext e2
    rw [e3, h6] at h5
    exact h5.mono fun e w' h => ⟨_, _, h.1, h.2⟩))
  have hlt := okZ_lt hz
  have hin := @amS_in zs t
  have hout := @amS_out zs t
  have h0 : amS zs t 0 = (-1, 0) := rfl
  generalize lsP zs t = ls at *
  generalize amS zs t = S at *
  have HIN := Lib.hid (fun k => @hin k); have HOUT := Lib.hid (fun k => @hout k); have H0 := Lib.hid h0
  have HLT := Lib.hid hlt
  have Hl := Lib.hid hl
  have HT := Lib.hid hT
  clear hin hout h0 hB0 hlt hlen hl hT hw hz ht ht2
  go_enter Try.func19, Try.ntmps19
  go_wp2_with fail
  refine HE.out.mono ?_
  rintro e w1 ⟨rfl, b1⟩
  have D1 : Hid (Below w.heap.size w w1) := b1
  clear b1
  have HCel := Lib.hid (fun (W : World) (hb : Below w.heap.size w W) (j : Nat) (hj : j < n) => (show ∃ b o, A = some ⟨b, o, none⟩ ∧ W.cell? ⟨b, o + j, none⟩ = some (.int .i16 (zs.getD j 0)) from by
    obtain ⟨b, o, e, hlt, hc⟩ := HT.out (by have := Hl.out; omega)
    have hjz : j < zs.length := by have := Hl.out; omega
    have h1 : zs[j]? = some zs[j] := List.getElem?_eq_getElem hjz
    exact ⟨b, o, e, by rw [World.cell?_of_block (a := ⟨b, o + j, none⟩) (hb.block b hlt), getD_of h1]; exact hc j _ h1⟩))
  have n24 : ((n : Int) == 24) = false := beq_eq_false_iff_ne.2 (by omega)
  go_wp2_with fail
  go_loopw [8, 9, 10, 11, 12, 13, 14, 15] (fun v8 v9 v10 _ _ _ _ _ wr => ∃ k : Nat, k ≤ 195 ∧ v10 = .int .i16 (6 + (k : Int)) ∧ v8 = .int .i64 (S k).1 ∧ v9 = .float .f32 (S k).2 ∧ Hid (Below w.heap.size w wr)) (fun _ _ v10 _ _ _ _ _ _ => 201 - (intOf v10).toNat)
  case atStart => exact ⟨0, by omega, rfl, by rw [H0.out], by rw [H0.out], D1⟩
  case round =>
    obtain ⟨k, hk, rfl, rfl, rfl, hB⟩ := hrel
    by_cases hlt : k < 195
    · have y1 : 6 + (k : Int) ≤ 200 := by omega
      have y2 : IntKind.i16.wrap (6 + (k : Int) + 1) = 6 + ((k + 1 : Nat) : Int) := (IntWalk.i16_in _ (by omega)).trans (by omega)
      have y3 : IntKind.i64.wrap (6 + (k : Int)) = 6 + (k : Int) := IntWalk.i64_in _ (by omega)
      go_wp2_with fail
      go_loopw [11] (fun v11 wr2 => ∃ j : Nat, j ≤ n ∧ v11 = .int .i64 j ∧ Hid (∀ i, i < j → zs.getD i 0 < 6 + (k : Int)) ∧ wr = wr2) (fun v11 _ => n - (intOf v11).toNat)
      case atStart => exact ⟨0, Nat.zero_le _, rfl, fun _ h => absurd h (by omega), rfl⟩
      case round =>
        obtain ⟨j, hj, rfl, hne, rfl⟩ := hrel
        by_cases hjl : j < n
        · obtain ⟨b, o, rfl, cz⟩ := HCel.out wr hB.out j hjl
          have j0 : (0 : Int) ≤ (j : Int) := by omega
          have j1 : (j : Int) < (n : Int) := by omega
          generalize hz : zs.getD j 0 = z at *
          by_cases hzT : z < 6 + (k : Int)
          · have hne2 : Hid (∀ i, i < j + 1 → zs.getD i 0 < 6 + (k : Int)) := fun i hi => by
              rcases (by omega : i < j ∨ i = j) with h | rfl
              · exact hne.out i h
              · rw [hz]; exact hzT
            clear hz
            go_wp2
            exact ⟨⟨j + 1, by omega, by go_num, hne2, trivial⟩, by simp [intOf]; omega⟩
          · by_cases hze : z = 6 + (k : Int)
            · have hmem : 6 + (k : Int) ∈ zs := by
                have hjz : j < zs.length := by have := Hl.out; omega
                have h1 : zs[j]? = some zs[j] := List.getElem?_eq_getElem hjz
                rw [← hze, ← hz, getD_of h1]
                exact List.getElem_mem _
              have E1 := Lib.hid (HIN.out k hmem)
              subst hze
              clear hz hmem
              go_wp2
              exact ⟨⟨k + 1, by omega, by go_num, by rw [E1.out], by rw [E1.out], hB⟩, by simp [intOf]; omega⟩
            · have hzf : (z == 6 + (k : Int)) = false := beq_eq_false_iff_ne.2 hze
              have hmem : ¬ 6 + (k : Int) ∈ zs := fun h => by
                obtain ⟨i, hi⟩ := List.getElem?_of_mem h
                have h2 := (List.getElem?_eq_some_iff.1 hi).1
                have h3 := getD_of hi
                have h4 := Hl.out
                rcases (by omega : i < j ∨ i = j ∨ j < i) with h5 | h5 | h5
                · have := hne.out i h5; omega
                · subst h5; omega
                · have := HLT.out (i - j - 1) j (by omega); rw [show j + (i - j - 1) + 1 = i by omega] at this; omega
              have EO := Lib.hid (HOUT.out k hmem)
              have HBk := Lib.hid (HB.out k hlt j hmem)
              clear hmem hne
              have hcj : ¬ c = j := by omega
              have jc : (j : Int) ≤ (c : Int) := by omega
              have jn : (j : Int) ≤ (n : Int) := by omega
              have jz : (0 : Int) ≤ (j : Int) := by omega
              have TK : Hid (∀ W, Below wr.heap.size wr W → ∀ i z, (zs.take j)[i]? = some z → W.cell? ⟨b, o + i, none⟩ = some (.int .i16 z)) := fun W hW i z h => by
                have h1 : i < j := by have := (List.getElem?_eq_some_iff.1 h).1; rw [List.length_take] at this; omega
                rw [List.getElem?_take, if_pos h1] at h
                obtain ⟨b', o', e, hc⟩ := HCel.out W (b_then hB.out hW) i (by have := (List.getElem?_eq_some_iff.1 h).1; have := Hl.out; omega)
                cases e
                rw [getD_of h] at hc
                exact hc
              have DK : Hid (∀ W, Below wr.heap.size wr W → ∀ i z, (zs.drop j)[i]? = some z → W.cell? ⟨b, o + j + i, none⟩ = some (.int .i16 z)) := fun W hW i z h => by
                rw [List.getElem?_drop] at h
                obtain ⟨b', o', e, hc⟩ := HCel.out W (b_then hB.out hW) (j + i) (by have := (List.getElem?_eq_some_iff.1 h).1; have := Hl.out; omega)
                cases e
                rw [getD_of h] at hc
                rw [Nat.add_assoc]
                exact hc
              have HLT1 : Hid (((zs.take j).map (Value.int .i16)).length = j * 1) := by
                show _ = _
                have := Hl.out
                simp
                omega
              have HLT2 : Hid (((zs.drop j).map (Value.int .i16)).length = (n - j) * 1) := by
                show _ = _
                have := Hl.out
                simp
                omega
              have hj2 : j ≤ n := hj
              go_upto_region 15 with fail
              go_cut [12] (fun s12 wx => ∃ (g cap : Nat), s12 = .slice (some ⟨g, 0, none⟩) (n + 1) cap ∧ Ii wx wx.heap.size (some ⟨g, 0, none⟩) (insZ zs j (6 + (k : Int))) ∧ Below w.heap.size w wx)
              case first =>
                go_region_law (first | (refine step_own rfl (.tmp 55) (.tmp 58) 22 rfl wr.heap.size 47 i0 _ 1 2 Try.underlying22 hi0 hz0 hz1 hz2 rfl (by decide) _ 0 [] (by rfl) (own_at0 (by first | exact heap_alloc_new _ _ | exact new_at (by simp) _ | exact (Below.heap_alloc _ _ _ (by simp)).trans (heap_alloc_new _ _)) (by simp)) _ j _ ((zs.take j).map (Value.int .i16)) (by rfl) HLT1.out (iiN_news (TK.out _ (by repeat (first | with_reducible exact Below.refl wr.heap.size wr | refine b_drewN ?_ _ | refine b_drew ?_ | refine b_alloc ?_ _ | with_reducible exact B1.out | with_reducible exact B2.out)))) (int_one _) (by unfold maxLen; omega) (by omega) (by simp; try omega) ?_; intro v1 w2 hown1 hgrow1; have B1 : Hid (Below wr.heap.size wr w2) := (show Below wr.heap.size wr _ from (by repeat (first | with_reducible exact Below.refl wr.heap.size wr | refine b_drewN ?_ _ | refine b_drew ?_ | refine b_alloc ?_ _ | with_reducible exact B1.out | with_reducible exact B2.out))).grown hgrow1 (by simp; try omega) (fun k h => by cases h; (try simp); (try omega)); have H1 := Lib.hid hown1; (try (have N1 : Hid (w2.heap[wr.heap.size]? = some (.cells #[.int .i16 (6 + (k : Int))] 47 (0, 0))) := (hgrow1.block _ (by simp; try omega) (fun h => absurd (Option.some.inj (show some wr.heap.size = some (wr.heap.size + 1) from h)) (by omega))).trans (by first | exact heap_alloc_new _ _ | exact new_at (by simp) _ | exact (Below.heap_alloc _ _ _ (by simp)).trans (heap_alloc_new _ _)))); (try (have N1 : Hid (w2.heap[wr.heap.size + 1]? = some (.cells #[.int .i16 (6 + (k : Int))] 47 (0, 0))) := (hgrow1.block _ (by simp; try omega) (fun h => absurd (Option.some.inj (show some (wr.heap.size + 1) = some wr.heap.size from h)) (by omega))).trans (by first | exact heap_alloc_new _ _ | exact new_at (by simp) _ | exact (Below.heap_alloc _ _ _ (by simp)).trans (heap_alloc_new _ _)))); clear hown1 hgrow1) | (refine step_own rfl (.tmp 59) (.tmp 61) 22 rfl wr.heap.size 47 i0 _ 1 2 Try.underlying22 hi0 hz0 hz1 hz2 rfl (by decide) _ (0 + j) _ (by rfl) (own_below H1.out (by repeat (first | with_reducible exact Below.refl _ _ | refine b_drewN ?_ _ | refine b_drew ?_ | refine b_alloc ?_ _))) _ 1 _ [.int .i16 (6 + (k : Int))] (by rfl) rfl (World.news_of_block (cs := #[.int .i16 (6 + (k : Int))]) (by first | exact N1.out | first | exact heap_alloc_new _ _ | exact new_at (by simp) _ | exact (Below.heap_alloc _ _ _ (by simp)).trans (heap_alloc_new _ _))) (by intro u hu; simp at hu; subst hu; rfl) (by unfold maxLen; omega) (by omega) (by have := B1.out.size; first | omega | (simp; omega)) ?_; intro v2 w3 hown2 hgrow2; have B2 : Hid (Below wr.heap.size wr w3) := (show Below wr.heap.size wr _ from (by repeat (first | with_reducible exact Below.refl wr.heap.size wr | refine b_drewN ?_ _ | refine b_drew ?_ | refine b_alloc ?_ _ | with_reducible exact B1.out | with_reducible exact B2.out))).grown hgrow2 (by have := B1.out.size; first | omega | (simp; omega)) (fun k h => (own_base H1.out k h).1); have H2 := Lib.hid hown2; clear hown2 hgrow2) | (refine step_own rfl (.tmp 62) (.tmp 65) 22 rfl wr.heap.size 47 i0 _ 1 2 Try.underlying22 hi0 hz0 hz1 hz2 rfl (by decide) _ (0 + j + 1) _ (by rfl) (own_below H2.out (by repeat (first | with_reducible exact Below.refl _ _ | refine b_drewN ?_ _ | refine b_drew ?_ | refine b_alloc ?_ _))) _ (n - j) _ ((zs.drop j).map (Value.int .i16)) (by rfl) HLT2.out (iiN_news (DK.out _ (by repeat (first | with_reducible exact Below.refl wr.heap.size wr | refine b_drewN ?_ _ | refine b_drew ?_ | refine b_alloc ?_ _ | with_reducible exact B1.out | with_reducible exact B2.out)))) (int_one _) (by unfold maxLen; omega) (by omega) (by have := B2.out.size; first | omega | (simp; omega)) ?_; intro v3 w4 hown3 hgrow3; have B3 : Hid (Below wr.heap.size wr w4) := (show Below wr.heap.size wr _ from (by repeat (first | with_reducible exact Below.refl wr.heap.size wr | refine b_drewN ?_ _ | refine b_drew ?_ | refine b_alloc ?_ _ | with_reducible exact B1.out | with_reducible exact B2.out))).grown hgrow3 (by have := B2.out.size; first | omega | (simp; omega)) (fun k h => (own_base H2.out k h).1); have H3 := Lib.hid hown3; clear hown3 hgrow3))
                all_goals
                  go_wp2_with fail
                  go_meet
                  obtain ⟨g, cap, rfl, hI⟩ := own_ins H3.out hj2
                  exact ⟨g, cap, rfl, hI, b_then hB.out B3.out⟩
              case rest =>
                obtain ⟨g, cap, rfl, hI, hb⟩ := hcut
                have HI := Lib.hid hI; have BB : Hid (Below w.heap.size w wc) := hb
                clear hI hb TK DK HLT1 HLT2
                go_wp2_with fail
                refine (HBk.out _ _ _ HI.out).mono ?_
                rintro e w5 ⟨p, q, rfl, b5⟩
                have B5 : Hid (Below w.heap.size w w5) := b_then BB.out b5
                clear b5
                generalize ls (6 + (k : Int)) = L at *
                by_cases hneg : (S k).1 < 0
                · have e1 : S (k + 1) = (6 + (k : Int), L) := by rw [EO.out, decide_eq_true hneg]; rfl
                  have E1 := Lib.hid e1
                  clear e1
                  go_wp2
                  go_roundw
                  case rel => exact ⟨k + 1, by omega, by go_num, by rw [E1.out], by rw [E1.out], B5⟩
                  case measure => simp [intOf]; omega
                · cases hlt2 : oLt L (S k).2
                  · have t1 := (tf_lt hlt2).2 rfl
                    have e1 : S (k + 1) = S k := by rw [EO.out, decide_eq_false hneg, hlt2]; rfl
                    have E1 := Lib.hid e1
                    clear hlt2 e1
                    go_wp2
                    go_roundw
                    case rel => exact ⟨k + 1, by omega, by go_num, by rw [E1.out], by rw [E1.out], B5⟩
                    case measure => simp [intOf]; omega
                  · have t1 := (tf_lt hlt2).1 rfl
                    have e1 : S (k + 1) = (6 + (k : Int), L) := by rw [EO.out, decide_eq_false hneg, hlt2]; rfl
                    have E1 := Lib.hid e1
                    clear hlt2 e1
                    go_wp2
                    go_roundw
                    case rel => exact ⟨k + 1, by omega, by go_num, by rw [E1.out], by rw [E1.out], B5⟩
                    case measure => simp [intOf]; omega
        · have hjn : j = n := by omega
          have lj : ¬ (j : Int) < (n : Int) := by omega
          obtain ⟨b, o, rfl, cz⟩ := HCel.out wr hB.out 0 (by omega)
          clear cz
          have HJN := Lib.hid hjn
          clear hjn
          have hne' : Hid (∀ i, i < n → zs.getD i 0 < 6 + (k : Int)) := fun i h => hne.out i (by have := HJN.out; omega)
          by_cases hcj : c = j
          · have hmem : ¬ 6 + (k : Int) ∈ zs := fun h => by
              obtain ⟨i, hi⟩ := List.getElem?_of_mem h
              have h2 := (List.getElem?_eq_some_iff.1 hi).1
              have h3 := getD_of hi
              have h4 := Hl.out
              have := hne'.out i (by omega); omega
            have EO := Lib.hid (HOUT.out k hmem)
            have HBk := Lib.hid (HB.out k hlt j hmem)
            clear hmem hne
            have hcj2 : j = c := hcj.symm
            clear hcj
            subst hcj2
            have jc : (j : Int) ≤ (j : Int) := by omega
            have jn : (j : Int) ≤ (n : Int) := by omega
            have jz : (0 : Int) ≤ (j : Int) := by omega
            have TK : Hid (∀ W, Below wr.heap.size wr W → ∀ i z, (zs.take j)[i]? = some z → W.cell? ⟨b, o + i, none⟩ = some (.int .i16 z)) := fun W hW i z h => by
              have h1 : i < j := by have := (List.getElem?_eq_some_iff.1 h).1; rw [List.length_take] at this; omega
              rw [List.getElem?_take, if_pos h1] at h
              obtain ⟨b', o', e, hc⟩ := HCel.out W (b_then hB.out hW) i (by have := (List.getElem?_eq_some_iff.1 h).1; have := Hl.out; omega)
              cases e
              rw [getD_of h] at hc
              exact hc
            have DK : Hid (∀ W, Below wr.heap.size wr W → ∀ i z, (zs.drop j)[i]? = some z → W.cell? ⟨b, o + i, none⟩ = some (.int .i16 z)) := fun W hW i z h => by
              rw [List.getElem?_drop] at h
              have := (List.getElem?_eq_some_iff.1 h).1
              have := Hl.out
              have := HJN.out
              omega
            have HLT1 : Hid (((zs.take j).map (Value.int .i16)).length = j * 1) := by
              show _ = _
              have := Hl.out
              simp
              omega
            have HLT2 : Hid (((zs.drop j).map (Value.int .i16)).length = (n - j) * 1) := by
              show _ = _
              have := Hl.out
              simp
              omega
            have hj2 : j ≤ n := hj
            go_upto_region 15 with fail
            go_cut [12] (fun s12 wx => ∃ (g cap : Nat), s12 = .slice (some ⟨g, 0, none⟩) (n + 1) cap ∧ Ii wx wx.heap.size (some ⟨g, 0, none⟩) (insZ zs j (6 + (k : Int))) ∧ Below w.heap.size w wx)
            case first =>
              go_region_law (first | (refine step_own rfl (.tmp 55) (.tmp 58) 22 rfl wr.heap.size 47 i0 _ 1 2 Try.underlying22 hi0 hz0 hz1 hz2 rfl (by decide) _ 0 [] (by rfl) (own_at0 (by first | exact heap_alloc_new _ _ | exact new_at (by simp) _ | exact (Below.heap_alloc _ _ _ (by simp)).trans (heap_alloc_new _ _)) (by simp)) _ j _ ((zs.take j).map (Value.int .i16)) (by rfl) HLT1.out (iiN_news (TK.out _ (by repeat (first | with_reducible exact Below.refl wr.heap.size wr | refine b_drewN ?_ _ | refine b_drew ?_ | refine b_alloc ?_ _ | with_reducible exact B1.out | with_reducible exact B2.out)))) (int_one _) (by unfold maxLen; omega) (by omega) (by simp; try omega) ?_; intro v1 w2 hown1 hgrow1; have B1 : Hid (Below wr.heap.size wr w2) := (show Below wr.heap.size wr _ from (by repeat (first | with_reducible exact Below.refl wr.heap.size wr | refine b_drewN ?_ _ | refine b_drew ?_ | refine b_alloc ?_ _ | with_reducible exact B1.out | with_reducible exact B2.out))).grown hgrow1 (by simp; try omega) (fun k h => by cases h; (try simp); (try omega)); have H1 := Lib.hid hown1; (try (have N1 : Hid (w2.heap[wr.heap.size]? = some (.cells #[.int .i16 (6 + (k : Int))] 47 (0, 0))) := (hgrow1.block _ (by simp; try omega) (fun h => absurd (Option.some.inj (show some wr.heap.size = some (wr.heap.size + 1) from h)) (by omega))).trans (by first | exact heap_alloc_new _ _ | exact new_at (by simp) _ | exact (Below.heap_alloc _ _ _ (by simp)).trans (heap_alloc_new _ _)))); (try (have N1 : Hid (w2.heap[wr.heap.size + 1]? = some (.cells #[.int .i16 (6 + (k : Int))] 47 (0, 0))) := (hgrow1.block _ (by simp; try omega) (fun h => absurd (Option.some.inj (show some (wr.heap.size + 1) = some wr.heap.size from h)) (by omega))).trans (by first | exact heap_alloc_new _ _ | exact new_at (by simp) _ | exact (Below.heap_alloc _ _ _ (by simp)).trans (heap_alloc_new _ _)))); clear hown1 hgrow1) | (refine step_own rfl (.tmp 59) (.tmp 61) 22 rfl wr.heap.size 47 i0 _ 1 2 Try.underlying22 hi0 hz0 hz1 hz2 rfl (by decide) _ (0 + j) _ (by rfl) (own_below H1.out (by repeat (first | with_reducible exact Below.refl _ _ | refine b_drewN ?_ _ | refine b_drew ?_ | refine b_alloc ?_ _))) _ 1 _ [.int .i16 (6 + (k : Int))] (by rfl) rfl (World.news_of_block (cs := #[.int .i16 (6 + (k : Int))]) (by first | exact N1.out | first | exact heap_alloc_new _ _ | exact new_at (by simp) _ | exact (Below.heap_alloc _ _ _ (by simp)).trans (heap_alloc_new _ _))) (by intro u hu; simp at hu; subst hu; rfl) (by unfold maxLen; omega) (by omega) (by have := B1.out.size; first | omega | (simp; omega)) ?_; intro v2 w3 hown2 hgrow2; have B2 : Hid (Below wr.heap.size wr w3) := (show Below wr.heap.size wr _ from (by repeat (first | with_reducible exact Below.refl wr.heap.size wr | refine b_drewN ?_ _ | refine b_drew ?_ | refine b_alloc ?_ _ | with_reducible exact B1.out | with_reducible exact B2.out))).grown hgrow2 (by have := B1.out.size; first | omega | (simp; omega)) (fun k h => (own_base H1.out k h).1); have H2 := Lib.hid hown2; clear hown2 hgrow2) | (refine step_own rfl (.tmp 62) (.tmp 65) 22 rfl wr.heap.size 47 i0 _ 1 2 Try.underlying22 hi0 hz0 hz1 hz2 rfl (by decide) _ (0 + j + 1) _ (by rfl) (own_below H2.out (by repeat (first | with_reducible exact Below.refl _ _ | refine b_drewN ?_ _ | refine b_drew ?_ | refine b_alloc ?_ _))) _ 0 _ [] (by rfl) rfl (fun _ _ h => nomatch h) (fun _ h => nomatch h) (by unfold maxLen; omega) (by omega) (by have := B2.out.size; first | omega | (simp; omega)) ?_; intro v3 w4 hown3 hgrow3; have B3 : Hid (Below wr.heap.size wr w4) := (show Below wr.heap.size wr _ from (by repeat (first | with_reducible exact Below.refl wr.heap.size wr | refine b_drewN ?_ _ | refine b_drew ?_ | refine b_alloc ?_ _ | with_reducible exact B1.out | with_reducible exact B2.out))).grown hgrow3 (by have := B2.out.size; first | omega | (simp; omega)) (fun k h => (own_base H2.out k h).1); have H3 : Hid (w4.ownsRow wr.heap.size 47 1 v3 (0 + j + 1 + (n - j)) ([] ++ (zs.take j).map (Value.int .i16) ++ [Value.int .i16 (6 + (k : Int))] ++ (zs.drop j).map (Value.int .i16))) := (by have e0 : n - j = 0 := (by have := HJN.out; omega); have e1 : zs.drop j = [] := List.drop_eq_nil_of_le (by have := HJN.out; have := Hl.out; omega); rw [e0, e1]; exact hown3); clear hown3 hgrow3))
              all_goals
                go_wp2_with fail
                go_meet
                obtain ⟨g, cap, rfl, hI⟩ := own_ins H3.out hj2
                exact ⟨g, cap, rfl, hI, b_then hB.out B3.out⟩
            case rest =>
              obtain ⟨g, cap, rfl, hI, hb⟩ := hcut
              have HI := Lib.hid hI; have BB : Hid (Below w.heap.size w wc) := hb
              clear hI hb TK DK HLT1 HLT2
              go_wp2_with fail
              refine (HBk.out _ _ _ HI.out).mono ?_
              rintro e w5 ⟨p, q, rfl, b5⟩
              have B5 : Hid (Below w.heap.size w w5) := b_then BB.out b5
              clear b5
              generalize ls (6 + (k : Int)) = L at *
              by_cases hneg : (S k).1 < 0
              · have e1 : S (k + 1) = (6 + (k : Int), L) := by rw [EO.out, decide_eq_true hneg]; rfl
                have E1 := Lib.hid e1
                clear e1
                go_wp2
                go_roundw
                case rel => exact ⟨k + 1, by omega, by go_num, by rw [E1.out], by rw [E1.out], B5⟩
                case measure => simp [intOf]; omega
              · cases hlt2 : oLt L (S k).2
                · have t1 := (tf_lt hlt2).2 rfl
                  have e1 : S (k + 1) = S k := by rw [EO.out, decide_eq_false hneg, hlt2]; rfl
                  have E1 := Lib.hid e1
                  clear hlt2 e1
                  go_wp2
                  go_roundw
                  case rel => exact ⟨k + 1, by omega, by go_num, by rw [E1.out], by rw [E1.out], B5⟩
                  case measure => simp [intOf]; omega
                · have t1 := (tf_lt hlt2).1 rfl
                  have e1 : S (k + 1) = (6 + (k : Int), L) := by rw [EO.out, decide_eq_false hneg, hlt2]; rfl
                  have E1 := Lib.hid e1
                  clear hlt2 e1
                  go_wp2
                  go_roundw
                  case rel => exact ⟨k + 1, by omega, by go_num, by rw [E1.out], by rw [E1.out], B5⟩
                  case measure => simp [intOf]; omega
          · have hmem : ¬ 6 + (k : Int) ∈ zs := fun h => by
              obtain ⟨i, hi⟩ := List.getElem?_of_mem h
              have h2 := (List.getElem?_eq_some_iff.1 hi).1
              have h3 := getD_of hi
              have h4 := Hl.out
              have := hne'.out i (by omega); omega
            have EO := Lib.hid (HOUT.out k hmem)
            have HBk := Lib.hid (HB.out k hlt j hmem)
            clear hmem hne
            skip
            have jc : (j : Int) ≤ (c : Int) := by omega
            have jn : (j : Int) ≤ (n : Int) := by omega
            have jz : (0 : Int) ≤ (j : Int) := by omega
            have TK : Hid (∀ W, Below wr.heap.size wr W → ∀ i z, (zs.take j)[i]? = some z → W.cell? ⟨b, o + i, none⟩ = some (.int .i16 z)) := fun W hW i z h => by
              have h1 : i < j := by have := (List.getElem?_eq_some_iff.1 h).1; rw [List.length_take] at this; omega
              rw [List.getElem?_take, if_pos h1] at h
              obtain ⟨b', o', e, hc⟩ := HCel.out W (b_then hB.out hW) i (by have := (List.getElem?_eq_some_iff.1 h).1; have := Hl.out; omega)
              cases e
              rw [getD_of h] at hc
              exact hc
            have DK : Hid (∀ W, Below wr.heap.size wr W → ∀ i z, (zs.drop j)[i]? = some z → W.cell? ⟨b, o + j + i, none⟩ = some (.int .i16 z)) := fun W hW i z h => by
              rw [List.getElem?_drop] at h
              obtain ⟨b', o', e, hc⟩ := HCel.out W (b_then hB.out hW) (j + i) (by have := (List.getElem?_eq_some_iff.1 h).1; have := Hl.out; omega)
              cases e
              rw [getD_of h] at hc
              rw [Nat.add_assoc]
              exact hc
            have HLT1 : Hid (((zs.take j).map (Value.int .i16)).length = j * 1) := by
              show _ = _
              have := Hl.out
              simp
              omega
            have HLT2 : Hid (((zs.drop j).map (Value.int .i16)).length = (n - j) * 1) := by
              show _ = _
              have := Hl.out
              simp
              omega
            have hj2 : j ≤ n := hj
            go_upto_region 15 with fail
            go_cut [12] (fun s12 wx => ∃ (g cap : Nat), s12 = .slice (some ⟨g, 0, none⟩) (n + 1) cap ∧ Ii wx wx.heap.size (some ⟨g, 0, none⟩) (insZ zs j (6 + (k : Int))) ∧ Below w.heap.size w wx)
            case first =>
              go_region_law (first | (refine step_own rfl (.tmp 55) (.tmp 58) 22 rfl wr.heap.size 47 i0 _ 1 2 Try.underlying22 hi0 hz0 hz1 hz2 rfl (by decide) _ 0 [] (by rfl) (own_at0 (by first | exact heap_alloc_new _ _ | exact new_at (by simp) _ | exact (Below.heap_alloc _ _ _ (by simp)).trans (heap_alloc_new _ _)) (by simp)) _ j _ ((zs.take j).map (Value.int .i16)) (by rfl) HLT1.out (iiN_news (TK.out _ (by repeat (first | with_reducible exact Below.refl wr.heap.size wr | refine b_drewN ?_ _ | refine b_drew ?_ | refine b_alloc ?_ _ | with_reducible exact B1.out | with_reducible exact B2.out)))) (int_one _) (by unfold maxLen; omega) (by omega) (by simp; try omega) ?_; intro v1 w2 hown1 hgrow1; have B1 : Hid (Below wr.heap.size wr w2) := (show Below wr.heap.size wr _ from (by repeat (first | with_reducible exact Below.refl wr.heap.size wr | refine b_drewN ?_ _ | refine b_drew ?_ | refine b_alloc ?_ _ | with_reducible exact B1.out | with_reducible exact B2.out))).grown hgrow1 (by simp; try omega) (fun k h => by cases h; (try simp); (try omega)); have H1 := Lib.hid hown1; (try (have N1 : Hid (w2.heap[wr.heap.size]? = some (.cells #[.int .i16 (6 + (k : Int))] 47 (0, 0))) := (hgrow1.block _ (by simp; try omega) (fun h => absurd (Option.some.inj (show some wr.heap.size = some (wr.heap.size + 1) from h)) (by omega))).trans (by first | exact heap_alloc_new _ _ | exact new_at (by simp) _ | exact (Below.heap_alloc _ _ _ (by simp)).trans (heap_alloc_new _ _)))); (try (have N1 : Hid (w2.heap[wr.heap.size + 1]? = some (.cells #[.int .i16 (6 + (k : Int))] 47 (0, 0))) := (hgrow1.block _ (by simp; try omega) (fun h => absurd (Option.some.inj (show some (wr.heap.size + 1) = some wr.heap.size from h)) (by omega))).trans (by first | exact heap_alloc_new _ _ | exact new_at (by simp) _ | exact (Below.heap_alloc _ _ _ (by simp)).trans (heap_alloc_new _ _)))); clear hown1 hgrow1) | (refine step_own rfl (.tmp 59) (.tmp 61) 22 rfl wr.heap.size 47 i0 _ 1 2 Try.underlying22 hi0 hz0 hz1 hz2 rfl (by decide) _ (0 + j) _ (by rfl) (own_below H1.out (by repeat (first | with_reducible exact Below.refl _ _ | refine b_drewN ?_ _ | refine b_drew ?_ | refine b_alloc ?_ _))) _ 1 _ [.int .i16 (6 + (k : Int))] (by rfl) rfl (World.news_of_block (cs := #[.int .i16 (6 + (k : Int))]) (by first | exact N1.out | first | exact heap_alloc_new _ _ | exact new_at (by simp) _ | exact (Below.heap_alloc _ _ _ (by simp)).trans (heap_alloc_new _ _))) (by intro u hu; simp at hu; subst hu; rfl) (by unfold maxLen; omega) (by omega) (by have := B1.out.size; first | omega | (simp; omega)) ?_; intro v2 w3 hown2 hgrow2; have B2 : Hid (Below wr.heap.size wr w3) := (show Below wr.heap.size wr _ from (by repeat (first | with_reducible exact Below.refl wr.heap.size wr | refine b_drewN ?_ _ | refine b_drew ?_ | refine b_alloc ?_ _ | with_reducible exact B1.out | with_reducible exact B2.out))).grown hgrow2 (by have := B1.out.size; first | omega | (simp; omega)) (fun k h => (own_base H1.out k h).1); have H2 := Lib.hid hown2; clear hown2 hgrow2) | (refine step_own rfl (.tmp 62) (.tmp 65) 22 rfl wr.heap.size 47 i0 _ 1 2 Try.underlying22 hi0 hz0 hz1 hz2 rfl (by decide) _ (0 + j + 1) _ (by rfl) (own_below H2.out (by repeat (first | with_reducible exact Below.refl _ _ | refine b_drewN ?_ _ | refine b_drew ?_ | refine b_alloc ?_ _))) _ (n - j) _ ((zs.drop j).map (Value.int .i16)) (by rfl) HLT2.out (iiN_news (DK.out _ (by repeat (first | with_reducible exact Below.refl wr.heap.size wr | refine b_drewN ?_ _ | refine b_drew ?_ | refine b_alloc ?_ _ | with_reducible exact B1.out | with_reducible exact B2.out)))) (int_one _) (by unfold maxLen; omega) (by omega) (by have := B2.out.size; first | omega | (simp; omega)) ?_; intro v3 w4 hown3 hgrow3; have B3 : Hid (Below wr.heap.size wr w4) := (show Below wr.heap.size wr _ from (by repeat (first | with_reducible exact Below.refl wr.heap.size wr | refine b_drewN ?_ _ | refine b_drew ?_ | refine b_alloc ?_ _ | with_reducible exact B1.out | with_reducible exact B2.out))).grown hgrow3 (by have := B2.out.size; first | omega | (simp; omega)) (fun k h => (own_base H2.out k h).1); have H3 := Lib.hid hown3; clear hown3 hgrow3))
              all_goals
                go_wp2_with fail
                go_meet
                obtain ⟨g, cap, rfl, hI⟩ := own_ins H3.out hj2
                exact ⟨g, cap, rfl, hI, b_then hB.out B3.out⟩
            case rest =>
              obtain ⟨g, cap, rfl, hI, hb⟩ := hcut
              have HI := Lib.hid hI; have BB : Hid (Below w.heap.size w wc) := hb
              clear hI hb TK DK HLT1 HLT2
              go_wp2_with fail
              refine (HBk.out _ _ _ HI.out).mono ?_
              rintro e w5 ⟨p, q, rfl, b5⟩
              have B5 : Hid (Below w.heap.size w w5) := b_then BB.out b5
              clear b5
              generalize ls (6 + (k : Int)) = L at *
              by_cases hneg : (S k).1 < 0
              · have e1 : S (k + 1) = (6 + (k : Int), L) := by rw [EO.out, decide_eq_true hneg]; rfl
                have E1 := Lib.hid e1
                clear e1
                go_wp2
                go_roundw
                case rel => exact ⟨k + 1, by omega, by go_num, by rw [E1.out], by rw [E1.out], B5⟩
                case measure => simp [intOf]; omega
              · cases hlt2 : oLt L (S k).2
                · have t1 := (tf_lt hlt2).2 rfl
                  have e1 : S (k + 1) = S k := by rw [EO.out, decide_eq_false hneg, hlt2]; rfl
                  have E1 := Lib.hid e1
                  clear hlt2 e1
                  go_wp2
                  go_roundw
                  case rel => exact ⟨k + 1, by omega, by go_num, by rw [E1.out], by rw [E1.out], B5⟩
                  case measure => simp [intOf]; omega
                · have t1 := (tf_lt hlt2).1 rfl
                  have e1 : S (k + 1) = (6 + (k : Int), L) := by rw [EO.out, decide_eq_false hneg, hlt2]; rfl
                  have E1 := Lib.hid e1
                  clear hlt2 e1
                  go_wp2
                  go_roundw
                  case rel => exact ⟨k + 1, by omega, by go_num, by rw [E1.out], by rw [E1.out], B5⟩
                  case measure => simp [intOf]; omega
    · obtain rfl : k = 195 := by omega
      have y1 : ¬ 6 + ((195 : Nat) : Int) ≤ 200 := by omega
      generalize S 195 = s at *
      go_wp2
      exact bodyPost_ret (v := .tuple #[_, _, _]) (by simp [results, Try.results19, go_sem]) rfl ⟨rfl, hB.out⟩
end Go.Proofs.Ytaodpopghacmaaa
