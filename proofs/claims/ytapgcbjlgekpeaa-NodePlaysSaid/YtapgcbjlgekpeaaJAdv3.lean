/- Turns and streaks, walked (layer 15); what is told of lists of decisions. -/
import Derived.Test.YtapgcbjlgekpeaaJAdv2
import Derived.WalkMore
import Derived.Deep.LoopGhost
import Derived.Outline
namespace Go.Proofs.Ytapgcbjlgekpeaa
open Go.ChangeShapes Go.WideShapes Go.ChangeAt Go.RowKit

theorem Adv.sgn_zero (x : Int) : Adv.sgn x x = 0 := by unfold Adv.sgn; rw [if_neg (by omega), if_neg (by omega)]
theorem Adv.turns_way (g : Nat → Int) (k : Nat) : (Adv.turns g k).2 = 0 ∨ (Adv.turns g k).2 = 1 ∨ (Adv.turns g k).2 = -1 := by
  have := Adv.turns_changes g k
  rcases this with h | h
  · exact .inl h.1
  · exact .inr h.1
theorem Adv.turns_few (g : Nat → Int) {n : Nat} (h : n ≤ 1) : Adv.turns g n = (0, 0) := by
  rcases Nat.le_one_iff_eq_zero_or_eq_one.1 h with h | h <;> (rw [h]; rfl)

end Go.Proofs.Ytapgcbjlgekpeaa
