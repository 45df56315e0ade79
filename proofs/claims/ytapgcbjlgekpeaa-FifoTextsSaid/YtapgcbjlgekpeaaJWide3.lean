/- Contracts of layer 2's functions (wide): what is rounded up, sums, means. -/
import Derived.Test.YtapgcbjlgekpeaaJWide2
namespace Go.Proofs.Ytapgcbjlgekpeaa
open Go.ChangeShapes Go.WideShapes Go.ChangeAt Go.RowKit

/-- A number by a number, rounded up, stopped at the end; 0 by 0. -/
def Wide.up (x d : Nat) : Int := if d = 0 then 0 else Bits.small (x / d + (if x % d = 0 then 0 else 1))

theorem W2_split (x : Nat) : W2 (x / 18446744073709551616) (x % 18446744073709551616) = x := by unfold W2; omega

def Wide.quo (x d : Nat) : Nat := x / d

def Wide.scale (a b c : Int) : Int := if a < 0 ∨ b < 0 ∨ c < 1 then 0 else Wide.up (a.toNat * b.toNat) c.toNat

theorem Bits.total_lt (l : List Int) (hl : ∀ n ∈ l, I64 n) (hb : l.length ≤ 9223372036854775807) : Bits.total l < 2 ^ 128 := by
  have h := Bits.total_le l hl l.length (Nat.le_refl _)
  rw [List.take_length] at h
  have : l.length * 9223372036854775807 ≤ 9223372036854775807 * 9223372036854775807 := Nat.mul_le_mul_right _ hb
  omega

end Go.Proofs.Ytapgcbjlgekpeaa
