/- Contracts of layer 13's reference. -/
import Derived.Test.YtapgcbjlgekpeaaJControl2
namespace Go.Proofs.Ytapgcbjlgekpeaa
open Go.ChangeShapes Go.WideShapes Go.ChangeAt Go.RowKit

theorem Bits.cmp_le (a b : Nat) : decide (Bits.cmp a b ≤ 0) = decide (a ≤ b) := by
  unfold Bits.cmp
  by_cases h1 : a < b
  · rw [if_pos h1]; simp; omega
  · by_cases h2 : b < a
    · rw [if_neg h1, if_pos h2]; simp; omega
    · rw [if_neg h1, if_neg h2]; simp; omega

theorem Bits.sum_of {a b : Nat} (h : a + b < 340282366920938463463374607431768211456) : Bits.sum a b = a + b := by unfold Bits.sum; rw [if_pos h]

def Pol.open' (p : Pol) (load now : Int) : Int := if p.near load now = true then now else p.want load

end Go.Proofs.Ytapgcbjlgekpeaa
