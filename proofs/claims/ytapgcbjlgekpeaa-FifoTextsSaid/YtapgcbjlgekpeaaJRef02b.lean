/- Layer 2's reference: products, and which number is greater. -/
import Derived.Test.YtapgcbjlgekpeaaJRef02
import Derived.Deep.QuietTactic
import Derived.BigQuiet
namespace Go.Proofs.Ytapgcbjlgekpeaa
open Go.ChangeShapes Go.WideShapes Go.ChangeAt Go.RowKit

theorem Bits.mul_step (a b k : Nat) (ha : a < 18446744073709551616) (hk : k < 64) : a * 2 ^ (k + 1) < 2 ^ 128 ∧ a * (b % 2 ^ (k + 1)) < 2 ^ 128 ∧ a * (b % 2 ^ k) < 2 ^ 128 ∧ a * 2 ^ k < 2 ^ 128 ∧
    a * (b % 2 ^ (k + 1)) = a * (b % 2 ^ k) + (b.testBit k).toNat * (a * 2 ^ k) ∧ 2 * (a * 2 ^ k) = a * 2 ^ (k + 1) := by
  have hp : 2 ^ (k + 1) ≤ 2 ^ 64 := Nat.pow_le_pow_right (by omega) (by omega)
  have hp' : 2 ^ k ≤ 2 ^ 64 := Nat.pow_le_pow_right (by omega) (by omega)
  have h1 : ∀ z, z ≤ 2 ^ 64 → a * z < 2 ^ 128 := fun z hz => by
    have : a * z ≤ a * 2 ^ 64 := Nat.mul_le_mul_left _ hz
    omega
  have m1 := Nat.mod_lt b (Nat.two_pow_pos (k + 1))
  have m2 := Nat.mod_lt b (Nat.two_pow_pos k)
  refine ⟨h1 _ hp, h1 _ (by omega), h1 _ (by omega), h1 _ hp', ?_, ?_⟩
  · rw [Nat.mod_pow_succ, Nat.toNat_testBit, Nat.mul_add]
    congr 1
    rw [Nat.mul_left_comm, Nat.mul_comm (2 ^ k), Nat.mul_left_comm, Nat.mul_assoc]
  · rw [Nat.pow_succ, Nat.mul_comm 2, Nat.mul_assoc]

def Bits.cmp (a b : Nat) : Int := if a < b then -1 else if b < a then 1 else 0

theorem Bits.cmp_high (a b i : Nat) (h : a / 2 ^ (i + 1) = b / 2 ^ (i + 1)) :
    (a.testBit i = b.testBit i → a / 2 ^ i = b / 2 ^ i) ∧ (a.testBit i = true → b.testBit i = false → b < a) ∧ (a.testBit i = false → b.testBit i = true → a < b) := by
  have h1 := Bits.div_step a i
  have h2 := Bits.div_step b i
  have hp := Nat.two_pow_pos i
  refine ⟨fun e => by rw [h1, h2, h, e], fun e1 e2 => ?_, fun e1 e2 => ?_⟩
  · rw [e1] at h1; rw [e2] at h2
    have : b / 2 ^ i < a / 2 ^ i := by rw [h1, h2, h]; simp
    exact Nat.lt_of_not_le fun hle => by have := Nat.div_le_div_right (c := 2 ^ i) hle; omega
  · rw [e1] at h1; rw [e2] at h2
    have : a / 2 ^ i < b / 2 ^ i := by rw [h1, h2, h]; simp
    exact Nat.lt_of_not_le fun hle => by have := Nat.div_le_div_right (c := 2 ^ i) hle; omega

end Go.Proofs.Ytapgcbjlgekpeaa
