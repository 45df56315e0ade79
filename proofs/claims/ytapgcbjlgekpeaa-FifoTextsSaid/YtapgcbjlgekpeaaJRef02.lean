/- Contracts of layer 2's reference: numbers of 128 bits, bit by bit. -/
import Derived.Test.YtapgcbjlgekpeaaJBase
namespace Go.Proofs.Ytapgcbjlgekpeaa
open Go.ChangeShapes Go.WideShapes Go.ChangeAt Go.RowKit

theorem Bits.bit_eq (lo k : Nat) : ((lo : Int) / 2 ^ k % 2 == 1) = lo.testBit k := by
  rw [Nat.testBit_eq_decide_div_mod_eq]
  have e : ((lo / 2 ^ k % 2 : Nat) : Int) = (lo : Int) / 2 ^ k % 2 := by simp
  rw [← e]
  rw [Bool.eq_iff_iff]
  simp
  omega

/-- The bits that the reference has laid behind k rounds. -/
def Bits.laid (hi lo k : Nat) : Array Value := Bits.row 128 (fun i => if i < 64 then decide (i < k) && lo.testBit i else decide (i - 64 < k) && hi.testBit (i - 64))

theorem Bits.laid_zero (hi lo : Nat) : Bits.laid hi lo 0 = Bits.num 0 := by
  unfold Bits.laid Bits.num
  apply Bits.row_ext
  intro i _
  simp
theorem Bits.laid_step (hi lo k : Nat) (h : k < 64) : ((Bits.laid hi lo k).setIfInBounds k (.bool (lo.testBit k))).setIfInBounds (64 + k) (.bool (hi.testBit k)) = Bits.laid hi lo (k + 1) := by
  unfold Bits.laid
  rw [Bits.row_set, Bits.row_set]
  apply Bits.row_ext
  intro i hi
  by_cases h1 : i = 64 + k
  · subst h1
    rw [if_pos rfl, if_neg (by omega)]
    simp
  · by_cases h2 : i = k
    · subst h2
      simp [h]
    · simp only [h1, h2, if_false]
      have e1 : decide (i < k + 1) = decide (i < k) := by rw [Bool.eq_iff_iff]; simp; omega
      have e2 : ¬ i < 64 → decide (i - 64 < k + 1) = decide (i - 64 < k) := by intro _; rw [Bool.eq_iff_iff]; simp; omega
      by_cases h3 : i < 64
      · simp [h3, e1]
      · simp [h3, e2 h3]
theorem Bits.laid_end (hi lo : Nat) (h : lo < 2 ^ 64) : Bits.laid hi lo 64 = Bits.num (hi * 2 ^ 64 + lo) := by
  unfold Bits.laid Bits.num
  apply Bits.row_ext
  intro i hi
  rw [Bits.testBit_words _ _ h]
  by_cases h3 : i < 64
  · simp [h3]
  · simp [h3, show i - 64 < 64 by omega]

theorem Bits.hi_step (x i : Nat) (hi : 64 ≤ i) (hx : x < 2 ^ 128) : x / 2 ^ i < 18446744073709551616 := by
  have : x / 2 ^ i ≤ x / 2 ^ 64 := Nat.div_le_div_left (Nat.pow_le_pow_right (by omega) hi) (Nat.two_pow_pos _)
  have h2 : x / 2 ^ 64 < 2 ^ 64 := Nat.div_lt_of_lt_mul (by omega)
  omega

/-- The bits that the reference has laid of a doubled number. -/
def Bits.doubled (x k : Nat) : Array Value := Bits.row 128 (fun i => decide (i < k) && (2 * x).testBit i)
theorem Bits.doubled_one (x : Nat) : Bits.doubled x 1 = Bits.num 0 := by
  unfold Bits.doubled Bits.num
  apply Bits.row_ext
  intro i _
  by_cases h : i = 0
  · subst h
    simp [Nat.testBit_zero]
  · simp [show ¬ i < 1 by omega]
theorem Bits.doubled_step (x k : Nat) (h : 1 ≤ k) : (Bits.doubled x k).setIfInBounds k (.bool (x.testBit (k - 1))) = Bits.doubled x (k + 1) := by
  unfold Bits.doubled
  rw [Bits.row_set]
  apply Bits.row_ext
  intro i _
  by_cases h2 : i = k
  · subst h2
    have : (2 * x).testBit i = x.testBit (i - 1) := by
      obtain ⟨m, rfl⟩ : ∃ m, i = m + 1 := ⟨i - 1, by omega⟩
      rw [Nat.testBit_succ, Nat.mul_div_cancel_left _ (by omega)]
      rfl
    simp [this]
  · have e1 : decide (i < k + 1) = decide (i < k) := by rw [Bool.eq_iff_iff]; simp; omega
    simp [h2, e1]
theorem Bits.doubled_end (x : Nat) : Bits.doubled x 128 = Bits.num (2 * x) := by
  unfold Bits.doubled Bits.num
  apply Bits.row_ext
  intro i hi
  simp [hi]

/-- The bits that the reference has laid of a sum. -/
def Bits.summed (a b k : Nat) : Array Value := Bits.row 128 (fun i => decide (i < k) && (a + b).testBit i)
theorem Bits.summed_zero (a b : Nat) : Bits.summed a b 0 = Bits.num 0 := by
  unfold Bits.summed Bits.num
  apply Bits.row_ext
  intro i _
  simp
theorem Bits.summed_step (a b k : Nat) (v : Bool) (hv : v = (a + b).testBit k) : (Bits.summed a b k).setIfInBounds k (.bool v) = Bits.summed a b (k + 1) := by
  unfold Bits.summed
  rw [Bits.row_set]
  apply Bits.row_ext
  intro i _
  by_cases h2 : i = k
  · subst h2
    simp [hv]
  · have e1 : decide (i < k + 1) = decide (i < k) := by rw [Bool.eq_iff_iff]; simp; omega
    simp [h2, e1]
theorem Bits.summed_end (a b : Nat) : Bits.summed a b 128 = Bits.num (a + b) := by
  unfold Bits.summed Bits.num
  apply Bits.row_ext
  intro i hi
  simp [hi]

def Bits.sum (a b : Nat) : Nat := if a + b < 2 ^ 128 then a + b else 0
def Bits.fits (a b : Nat) : Bool := decide (a + b < 2 ^ 128)
def Bits.small (x : Nat) : Int := if x < 9223372036854775808 then x else 9223372036854775807

theorem Bits.small_none (x k : Nat) (h : x / 2 ^ k = 0) : x < 2 ^ k := Nat.lt_of_div_eq_zero (Nat.two_pow_pos _) h

end Go.Proofs.Ytapgcbjlgekpeaa
