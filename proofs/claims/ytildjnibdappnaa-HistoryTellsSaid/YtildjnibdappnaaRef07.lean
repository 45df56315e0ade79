/- Layer 7: whether two slices of ints are the same, by the reference; the last ones. -/
import Derived.Test.YtildjnibdappnaaSlice
namespace Go.Proofs.Ytildjnibdappnaa
open Go.ChangeShapes Go.WideShapes Go.ChangeAt Go.RowKit

/-- The same numbers. -/
theorem same_from07 {a b : List Int} {k : Nat} (hk : k = a.length) (hl : a.length = b.length) (h : ∀ j, j < k → a[j]?.getD 0 = b[j]?.getD 0) : a = b := by
  apply List.ext_getElem hl
  intro i h1 h2
  have := h i (by omega)
  simpa [h1, h2] using this

/-- The last so many. -/
def lastN {α : Type} (n : Nat) (l : List α) : List α := l.drop (l.length - n)
theorem lastN_len {α : Type} (n : Nat) (l : List α) : (lastN n l).length = min n l.length := by unfold lastN; rw [List.length_drop]; omega
theorem lastN_all {α : Type} {n : Nat} {l : List α} (h : l.length ≤ n) : lastN n l = l := by unfold lastN; rw [show l.length - n = 0 by omega]; rfl

theorem Ints.drop {w : World} {b off : Nat} {l : List Int} (h : Ints .i64 w (some ⟨b, off, none⟩) l) (k : Nat) : Ints .i64 w (some ⟨b, off + k, none⟩) (l.drop k) := by
  rcases h with h | ⟨b', off', hp, hb, hc⟩
  · left; rw [List.length_drop]; omega
  · right
    simp only [Option.some.injEq, Addr.mk.injEq, and_true] at hp
    obtain ⟨rfl, rfl⟩ := hp
    refine ⟨b, off + k, rfl, hb, fun j hj => ?_⟩
    rw [List.length_drop] at hj
    show w.cell? _ = some (Value.int .i64 ((l.drop k)[j]?.getD 0))
    rw [List.getElem?_drop, Nat.add_assoc]
    exact hc (k + j) (by omega)
theorem Ints.take {w : World} {p : Option Addr} {l : List Int} (h : Ints .i64 w p l) (k : Nat) : Ints .i64 w p (l.take k) := by
  rcases h with h | ⟨b', off', hp, hb, hc⟩
  · left; rw [List.length_take]; omega
  · right
    refine ⟨b', off', hp, hb, fun j hj => ?_⟩
    rw [List.length_take] at hj
    show w.cell? _ = some (Value.int .i64 ((l.take k)[j]?.getD 0))
    rw [List.getElem?_take_of_lt (by omega)]
    exact hc j (by omega)

end Go.Proofs.Ytildjnibdappnaa
