/- Layer 7: slices.Grow and slices.Concat, of ints. -/
import Derived.Test.YtildjnibdappnaaRingI
import Derived.Lib.AppendZerosOnto
namespace Go.Proofs.Ytildjnibdappnaa
open Go.ChangeShapes Go.WideShapes Go.ChangeAt Go.RowKit

/-- A slice that is read: its things' cells. -/
def Src (w : World) (s : Value) (n sz : Nat) (xs : List Value) : Prop :=
  ∃ p c, s = .slice p n c ∧ xs.length = n * sz ∧ (p = none → n = 0 ∧ c = 0) ∧ ∀ ad, p = some ad → ad.block < w.heap.size ∧ ∀ j u, xs[j]? = some u → w.cell? (ad.add j) = some u
theorem Src.below {w w' : World} {s : Value} {n sz : Nat} {xs : List Value} (h : Src w s n sz xs) (hb : Below w.heap.size w w') : Src w' s n sz xs := by
  obtain ⟨p, c, h1, h2, h3, h4⟩ := h
  refine ⟨p, c, h1, h2, h3, fun ad had => ?_⟩
  obtain ⟨h5, h6⟩ := h4 ad had
  refine ⟨Nat.lt_of_lt_of_le h5 hb.size, fun j u hu => ?_⟩
  rw [hb.cell (p := ad.add j) (by unfold Addr.add; split <;> exact h5)]
  exact h6 j u hu
theorem src_nil (w : World) (sz : Nat) : Src w (.slice none 0 0) 0 sz [] := ⟨none, 0, rfl, by simp, fun _ => ⟨rfl, rfl⟩, fun _ h => by cases h⟩
theorem stab_src {s : Value} {n sz : Nat} {xs : List Value} : Stab (fun w' => Src w' s n sz xs) := fun _ _ h hb => h.below hb

theorem zeroCells_size (z : Value) (n : Nat) : (Builtin.zeroCells #[z] n).size = n := by
  unfold Builtin.zeroCells
  simp

def cat2 {α : Type} (l1 l2 : List α) (k : Nat) : List α := if k = 0 then [] else if k = 1 then l1 else l1 ++ l2
def sum2 (n1 n2 k : Nat) : Nat := if k = 0 then 0 else if k = 1 then n1 else n1 + n2

end Go.Proofs.Ytildjnibdappnaa
