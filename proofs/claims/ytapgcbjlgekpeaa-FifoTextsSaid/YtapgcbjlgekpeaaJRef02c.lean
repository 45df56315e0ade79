/- Layer 2's reference: sums of lists, and quotients rounded up. -/
import Derived.Test.YtapgcbjlgekpeaaJRef02b
import Derived.Test.YtapgcbjlgekpeaaJBase
namespace Go.Proofs.Ytapgcbjlgekpeaa
open Go.ChangeShapes Go.WideShapes Go.ChangeAt Go.RowKit

/-- Whether q is n by d, rounded up. -/
def Bits.up (n d q : Nat) : Bool := decide (n ≤ q * d ∧ (q = 0 ∨ (q - 1) * d < n))

theorem Bits.mul_lt {a b : Nat} (ha : a < 18446744073709551616) (hb : b < 18446744073709551616) : a * b < 2 ^ 128 := by
  have : a * b ≤ 18446744073709551615 * 18446744073709551615 := Nat.mul_le_mul (by omega) (by omega)
  omega

/-- The sum of what is above 0. -/
def Bits.total (l : List Int) : Nat := l.foldl (fun s n => s + n.toNat) 0
theorem Bits.total_step (l : List Int) (k : Nat) (h : k < l.length) : Bits.total (l.take (k + 1)) = Bits.total (l.take k) + (l[k]?.getD 0).toNat := by
  unfold Bits.total
  rw [List.take_add_one, List.foldl_append]
  simp [List.getElem?_eq_getElem h]
theorem Bits.total_le (l : List Int) (hl : ∀ n ∈ l, I64 n) (k : Nat) (hk : k ≤ l.length) : Bits.total (l.take k) ≤ k * 9223372036854775807 := by
  induction k with
  | zero => simp [Bits.total]
  | succ k ih =>
    rw [Bits.total_step l k (by omega)]
    have h1 := ih (by omega)
    have h2 := (hl (l[k]?.getD 0) (by rw [List.getElem?_eq_getElem (by omega)]; exact List.getElem_mem _)).2
    omega

end Go.Proofs.Ytapgcbjlgekpeaa
