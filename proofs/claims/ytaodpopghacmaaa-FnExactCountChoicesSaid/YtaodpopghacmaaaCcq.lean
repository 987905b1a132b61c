/-
  A drawn region within a round; the choices are all different.
-/
import Derived.Test.YtaodpopghacmaaaChs
import Derived.Test.YtaodpopghacmaaaCck
namespace Go.Proofs.Ytaodpopghacmaaa
open Go.RowKit Go.ChangeShapes Go.WideShapes Go.Deep Go.Shelf
/-- Nothing but the normal end. -/
def NormP (R : Act → World → Prop) : Exit → Act → World → Prop
  | .normal, a, w => R a w
  | _, _, _ => False
theorem NormP.get {R : Act → World → Prop} {e : Exit} {a : Act} {w : World} (h : NormP R e a w) : e = .normal ∧ R a w := by
  cases e <;> first | exact ⟨rfl, h⟩ | exact False.elim h
theorem rowU_nd (a b : Nat) : (rowU a b).Nodup := by
  unfold rowU
  refine List.pairwise_map.2 ?_
  refine List.Pairwise.imp ?_ (List.Pairwise.filter _ List.nodup_range)
  intro x y h e
  exact h (Prod.mk.inj e).2
theorem prU_nd (n : Nat) : (prU n n 0).Nodup := by
  unfold prU
  rw [rowU_zero, List.append_nil]
  refine List.pairwise_flatMap.2 ⟨fun a _ => rowU_nd a n, ?_⟩
  refine List.Pairwise.imp ?_ List.nodup_range
  intro a b h x hx y hy e
  have h1 := (rowU_mem hx).1
  have h2 := (rowU_mem hy).1
  rw [e] at h1
  exact h (h1.symm.trans h2)
theorem chU_nd (n : Nat) : (chU n).Nodup := by
  unfold chU chC
  refine List.pairwise_flatMap.2 ⟨fun p _ => ?_, ?_⟩
  · unfold rowC
    refine List.pairwise_map.2 ?_
    refine List.Pairwise.imp ?_ (List.Pairwise.filter _ (prU_nd n))
    intro x y h e
    exact h (Prod.mk.inj e).2
  · refine List.Pairwise.imp ?_ (prU_nd n)
    intro a b h x hx y hy e
    unfold rowC at hx hy
    obtain ⟨u, _, rfl⟩ := List.mem_map.1 hx
    obtain ⟨v, _, rfl⟩ := List.mem_map.1 hy
    exact h (Prod.mk.inj e).1
theorem near_all (n : Nat) (nr : (Nat × Nat) × (Nat × Nat) → Bool) : nearK nr (chU n) = (chU n).filter nr := by
  have := nearK_filter (nr := nr) (chU n) [] (chU_nd n) (fun _ _ h => by simp at h)
  rwa [List.nil_append] at this
theorem InvK.size {Ks : List ((Nat × Nat) × (Nat × Nat))} {es : Array MapEntry} (h : InvK Ks es.toList) : es.size = Ks.length := by
  have := congrArg List.length h
  simpa using this
end Go.Proofs.Ytaodpopghacmaaa
