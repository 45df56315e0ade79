/- Numbers of 128 bits, bit by bit, as rows of truth values. -/
import Derived.Test.YtildjnibdappnaaBase
import Derived.Lib.Hide
namespace Go.Proofs.Ytildjnibdappnaa
open Go.ChangeShapes Go.WideShapes Go.ChangeAt Go.RowKit

namespace Bits
/-- A row of n truth values. -/
def row (n : Nat) (f : Nat → Bool) : Array Value := ((List.range n).map fun i => Value.bool (f i)).toArray

theorem row_size (n : Nat) (f : Nat → Bool) : (row n f).size = n := by simp [row]
theorem row_get (n : Nat) (f : Nat → Bool) (i : Nat) (h : i < n) : (row n f)[i]? = some (.bool (f i)) := by
  simp [row, h]
theorem row_ext (n : Nat) (f g : Nat → Bool) (h : ∀ i, i < n → f i = g i) : row n f = row n g := by
  unfold row
  congr 1
  apply List.map_congr_left
  intro i hi
  rw [h i (by simpa using hi)]
theorem row_set (n : Nat) (f : Nat → Bool) (k : Nat) (b : Bool) : (row n f).setIfInBounds k (.bool b) = row n (fun i => if i = k then b else f i) := by
  apply Array.ext
  · simp [row]
  · intro i h1 h2
    simp only [row, Array.size_setIfInBounds, List.size_toArray, List.length_map, List.length_range] at h1
    rw [Array.getElem_setIfInBounds (by rw [row_size]; exact h1)]
    simp only [row, List.getElem_toArray, List.getElem_map, List.getElem_range]
    by_cases hk : k = i
    · subst hk; simp
    · rw [if_neg hk, if_neg (Ne.symm hk)]
theorem row_inj (n : Nat) (f g : Nat → Bool) (h : row n f = row n g) : ∀ i, i < n → f i = g i := by
  intro i hi
  have h1 := row_get n f i hi
  rw [h, row_get n g i hi] at h1
  simpa using h1.symm

/-- The value of a number of 128 bits. -/
def num (x : Nat) : Array Value := row 128 x.testBit
theorem num_size (x : Nat) : (num x).size = 128 := row_size _ _
theorem num_get (x i : Nat) (h : i < 128) : (num x)[i]? = some (.bool (x.testBit i)) := row_get _ _ _ h
theorem num_inj {x y : Nat} (hx : x < 2 ^ 128) (hy : y < 2 ^ 128) (h : num x = num y) : x = y := by
  apply Nat.eq_of_testBit_eq
  intro i
  by_cases hi : i < 128
  · exact row_inj _ _ _ h i hi
  · rw [Nat.testBit_lt_two_pow (Nat.lt_of_lt_of_le hx (Nat.pow_le_pow_right (by omega) (by omega))), Nat.testBit_lt_two_pow (Nat.lt_of_lt_of_le hy (Nat.pow_le_pow_right (by omega) (by omega)))]

theorem div_step (x i : Nat) : x / 2 ^ i = 2 * (x / 2 ^ (i + 1)) + (x.testBit i).toNat := by
  rw [Nat.pow_succ, ← Nat.div_div_eq_div_mul, Nat.toNat_testBit]
  omega

theorem testBit_words (hi lo : Nat) (hl : lo < 2 ^ 64) (i : Nat) : (hi * 2 ^ 64 + lo).testBit i = if i < 64 then lo.testBit i else hi.testBit (i - 64) := by
  rw [Nat.mul_comm, Nat.two_pow_add_eq_or_of_lt hl, Nat.testBit_or, Nat.testBit_two_pow_mul]
  by_cases h : i < 64
  · simp [h]
    omega
  · have h2 : lo.testBit i = false := Nat.testBit_lt_two_pow (Nat.lt_of_lt_of_le hl (Nat.pow_le_pow_right (by omega) (by omega)))
    simp [h, h2]
    omega

/-- The carry behind k bits of a sum. -/
def carry (a b k : Nat) : Nat := (a % 2 ^ k + b % 2 ^ k) / 2 ^ k
theorem carry_le (a b k : Nat) : carry a b k ≤ 1 := by
  unfold carry
  have h1 := Nat.mod_lt a (Nat.two_pow_pos k)
  have h2 := Nat.mod_lt b (Nat.two_pow_pos k)
  have := Nat.div_lt_of_lt_mul (m := a % 2 ^ k + b % 2 ^ k) (n := 2 ^ k) (k := 2) (by omega)
  omega
theorem carry_step (a b k : Nat) : carry a b (k + 1) = (carry a b k + (a.testBit k).toNat + (b.testBit k).toNat) / 2 ∧ (a + b).testBit k = decide ((carry a b k + (a.testBit k).toNat + (b.testBit k).toNat) % 2 = 1) := by
  have hp : 0 < 2 ^ k := Nat.two_pow_pos k
  have ea : a % 2 ^ (k + 1) = a % 2 ^ k + 2 ^ k * (a.testBit k).toNat := by rw [Nat.mod_pow_succ, Nat.toNat_testBit]
  have eb : b % 2 ^ (k + 1) = b % 2 ^ k + 2 ^ k * (b.testBit k).toNat := by rw [Nat.mod_pow_succ, Nat.toNat_testBit]
  constructor
  · unfold carry
    rw [ea, eb, Nat.pow_succ, ← Nat.div_div_eq_div_mul]
    congr 1
    rw [show a % 2 ^ k + 2 ^ k * (a.testBit k).toNat + (b % 2 ^ k + 2 ^ k * (b.testBit k).toNat) = (a % 2 ^ k + b % 2 ^ k) + 2 ^ k * ((a.testBit k).toNat + (b.testBit k).toNat) by rw [Nat.mul_add]; omega, Nat.add_mul_div_left _ _ hp]
    omega
  · have hs : (a + b) / 2 ^ k = (a % 2 ^ k + b % 2 ^ k) / 2 ^ k + (a / 2 ^ k + b / 2 ^ k) := by
      have h1 := Nat.div_add_mod a (2 ^ k)
      have h2 := Nat.div_add_mod b (2 ^ k)
      have h3 : a + b = (a % 2 ^ k + b % 2 ^ k) + 2 ^ k * (a / 2 ^ k + b / 2 ^ k) := by rw [Nat.mul_add]; omega
      conv => lhs; rw [h3]
      rw [Nat.add_mul_div_left _ _ hp]
    unfold carry
    rw [Nat.testBit_eq_decide_div_mod_eq, hs, Nat.toNat_testBit, Nat.toNat_testBit]
    congr 1
    rw [eq_iff_iff]
    omega
theorem carry_end (a b : Nat) (ha : a < 2 ^ 128) (hb : b < 2 ^ 128) : (carry a b 128 = 0 ↔ a + b < 2 ^ 128) := by
  unfold carry
  rw [Nat.mod_eq_of_lt ha, Nat.mod_eq_of_lt hb]
  omega
end Bits
end Go.Proofs.Ytildjnibdappnaa
