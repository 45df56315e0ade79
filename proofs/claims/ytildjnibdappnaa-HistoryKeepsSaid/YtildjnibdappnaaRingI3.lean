/- Layer 7: all things of a ring of ints. -/
import Derived.Test.YtildjnibdappnaaRingI2
namespace Go.Proofs.Ytildjnibdappnaa
open Go.ChangeShapes Go.WideShapes Go.ChangeAt Go.RowKit

def rot {α : Type} (f : Nat) (l : List α) : List α := l.drop f ++ l.take f

theorem Owns.src {w : World} {B n : Nat} {g cap : Nat} {xs : List Value} (h : Owns w B 1 (.slice (some ⟨g, 0, none⟩) n cap) n xs) (first : Nat) (hf : first ≤ n) :
    Src w (.slice (some ⟨g, first, none⟩) (n - first) (cap - first)) (n - first) 1 (xs.drop first) ∧ Src w (.slice (some ⟨g, 0, none⟩) first cap) first 1 (xs.take first) := by
  obtain ⟨hl, h⟩ := h
  rcases h with ⟨h1, _⟩ | ⟨g', cap', h1, h2, h3, h4, h5, h6⟩
  · simp at h1
  · simp only [Value.slice.injEq, Option.some.injEq, Addr.mk.injEq, and_true, true_and] at h1
    obtain ⟨rfl, rfl⟩ := h1
    refine ⟨⟨_, _, rfl, by rw [List.length_drop]; omega, by simp, fun ad had => ?_⟩, ⟨_, _, rfl, by rw [List.length_take]; omega, by simp, fun ad had => ?_⟩⟩
    · obtain rfl : ad = ⟨g, first, none⟩ := by simpa using had.symm
      refine ⟨h3, fun j u hu => ?_⟩
      rw [List.getElem?_drop] at hu
      have : (⟨g, first, none⟩ : Addr).add j = ⟨g, first + j, none⟩ := by unfold Addr.add; split <;> simp_all
      rw [this]
      exact h5 _ _ hu
    · obtain rfl : ad = ⟨g, 0, none⟩ := by simpa using had.symm
      refine ⟨h3, fun j u hu => ?_⟩
      have hj : j < first := by have := (List.getElem?_eq_some_iff.1 hu).1; rw [List.length_take] at this; omega
      rw [List.getElem?_take_of_lt hj] at hu
      have : (⟨g, 0, none⟩ : Addr).add j = ⟨g, j, none⟩ := by unfold Addr.add; split <;> simp_all
      rw [this]
      exact h5 _ _ hu

/-- What 'All' hands back: a function that has all things in a box. -/
def AllOf (fn T : Nat) (w : World) (n sz : Nat) (xs : List Value) (e : Ending) (w' : World) : Prop :=
  ∃ Bn u, e = .returned (.func (.func fn) #[] #[.pointer (some ⟨Bn, 0, none⟩)]) ∧ w.heap.size ≤ Bn ∧ w'.heap[Bn]? = some (.cells #[u] T (0, 0)) ∧ Owns w' (Bn + 1) sz u n xs ∧ Below w.heap.size w w'

end Go.Proofs.Ytildjnibdappnaa
