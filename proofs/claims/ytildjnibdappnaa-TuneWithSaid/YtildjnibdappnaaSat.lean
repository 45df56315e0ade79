/- Contracts of layer 1's functions (sat) and of its reference. -/
import Derived.Test.YtildjnibdappnaaBase
import Derived.Lib.Hide
namespace Go.Proofs.Ytildjnibdappnaa
open Go.ChangeShapes Go.WideShapes Go.ChangeAt Go.RowKit

namespace Sat
def clamp (x : Int) : Int := if x < -9223372036854775808 then -9223372036854775808 else if 9223372036854775807 < x then 9223372036854775807 else x
theorem clamp_I64 (x : Int) : I64 (clamp x) := by unfold clamp I64; split <;> (try split) <;> omega
theorem clamp_of {x : Int} (h : I64 x) : clamp x = x := by unfold clamp; obtain ⟨a, b⟩ := h; rw [if_neg (by omega), if_neg (by omega)]
end Sat

theorem sat_add (a b : Int) (ha : I64 a) (hb : I64 b) (w : World) :
    Calls Try.prog 72 #[.int .i64 a, .int .i64 b] w fun e w' => e = .returned (.int .i64 (Sat.clamp (a + b))) ∧ w = w' := by
  obtain ⟨ha1, ha2⟩ := ha
  obtain ⟨hb1, hb2⟩ := hb
  go_enter Try.func72, Try.ntmps72
  go_wp2
  all_goals (go_ret; exact ⟨ret_int (by unfold Sat.clamp; split <;> (try split) <;> omega), rfl⟩)

theorem ref_add (a b : Int) (ha : I64 a) (hb : I64 b) (w : World) :
    Calls Try.prog 44 #[.int .i64 a, .int .i64 b] w fun e w' => e = .returned (.int .i64 (Sat.clamp (a + b))) ∧ w = w' := by
  obtain ⟨ha1, ha2⟩ := ha
  obtain ⟨hb1, hb2⟩ := hb
  go_enter Try.func44, Try.ntmps44
  go_wp2
  all_goals (go_ret; exact ⟨ret_int (by unfold Sat.clamp; split <;> (try split) <;> omega), rfl⟩)

theorem sat_sub (a b : Int) (ha : I64 a) (hb : I64 b) (w : World) :
    Calls Try.prog 55 #[.int .i64 a, .int .i64 b] w fun e w' => e = .returned (.int .i64 (Sat.clamp (a - b))) ∧ w = w' := by
  obtain ⟨ha1, ha2⟩ := ha
  obtain ⟨hb1, hb2⟩ := hb
  go_enter Try.func55, Try.ntmps55
  go_wp2
  all_goals (go_ret; exact ⟨ret_int (by unfold Sat.clamp; split <;> (try split) <;> omega), rfl⟩)

theorem ref_sub (a b : Int) (ha : I64 a) (hb : I64 b) (w : World) :
    Calls Try.prog 56 #[.int .i64 a, .int .i64 b] w fun e w' => e = .returned (.int .i64 (Sat.clamp (a - b))) ∧ w = w' := by
  obtain ⟨ha1, ha2⟩ := ha
  obtain ⟨hb1, hb2⟩ := hb
  go_enter Try.func56, Try.ntmps56
  go_wp2
  all_goals (go_ret; exact ⟨ret_int (by unfold Sat.clamp; split <;> (try split) <;> omega), rfl⟩)

def Sat.clampTo (n lo hi : Int) : Int := if n < lo ∨ hi < lo then lo else if hi < n then hi else n

theorem sat_clamp (n lo hi : Int) (w : World) :
    Calls Try.prog 116 #[.int .i64 n, .int .i64 lo, .int .i64 hi] w fun e w' => e = .returned (.int .i64 (Sat.clampTo n lo hi)) ∧ w = w' := by
  go_enter Try.func116, Try.ntmps116
  go_wp2
  all_goals (go_ret; exact ⟨ret_int (by unfold Sat.clampTo; split <;> (try split) <;> omega), rfl⟩)

theorem ref_clamp (n lo hi : Int) (w : World) :
    Calls Try.prog 125 #[.int .i64 n, .int .i64 lo, .int .i64 hi] w fun e w' => e = .returned (.int .i64 (Sat.clampTo n lo hi)) ∧ w = w' := by
  go_enter Try.func125, Try.ntmps125
  go_wp2
  all_goals (go_ret; exact ⟨ret_int (by unfold Sat.clampTo; split <;> (try split) <;> omega), rfl⟩)

/-! ### Floor and ceil -/
def Sat.floor (a b : Int) : Int := if b < 1 then 0 else a / b
def Sat.ceil (a b : Int) : Int := if b < 1 then 0 else -(-a / b)

theorem Sat.div_bd (a b : Int) (ha : I64 a) (hb : 1 ≤ b) : -9223372036854775808 ≤ a / b ∧ a / b ≤ 9223372036854775807 ∧ b * (a / b) ≤ a ∧ a < b * (a / b) + b := by
  obtain ⟨h1, h2⟩ := ha
  have e := Int.mul_ediv_add_emod a b
  have l := Int.emod_nonneg a (b := b) (by omega)
  have u := Int.emod_lt_of_pos a (b := b) (by omega)
  refine ⟨?_, ?_, by omega, by omega⟩
  · exact Int.le_ediv_of_mul_le (by omega) (by
      have : (-9223372036854775808) * b ≤ (-9223372036854775808) * 1 := Int.mul_le_mul_of_nonpos_left (by omega) (by omega)
      omega)
  · by_cases h : 0 ≤ a
    · have := Int.ediv_le_self b h; omega
    · have := Int.ediv_neg_of_neg_of_pos (a := a) (b := b) (by omega) (by omega); omega

/-- A quotient is known by its rest. -/
theorem Sat.quo_of {a b q : Int} (hb : 1 ≤ b) (h1 : b * q ≤ a) (h2 : a < b * q + b) : a / b = q := by
  have e := Int.mul_ediv_add_emod a b
  have l := Int.emod_nonneg a (b := b) (by omega)
  have u := Int.emod_lt_of_pos a (b := b) (by omega)
  have h3 : b * (a / b - q) < b * 1 := by rw [Int.mul_sub]; omega
  have h4 : b * (q - a / b) < b * 1 := by rw [Int.mul_sub]; omega
  have h5 := Int.lt_of_mul_lt_mul_left h3 (by omega)
  have h6 := Int.lt_of_mul_lt_mul_left h4 (by omega)
  omega

theorem Sat.tdiv_neg_of (a b : Int) (ha : a < 0) (_ : 1 ≤ b) : a.tdiv b = -(-a / b) := by
  have : a.tdiv b = -((-a).tdiv b) := by rw [Int.neg_tdiv]; omega
  rw [this, Int.tdiv_eq_ediv_of_nonneg (by omega)]

theorem Sat.tmod_neg_of (a b : Int) (ha : a < 0) (_ : 1 ≤ b) : a.tmod b = -(-a % b) := by
  have : a.tmod b = -((-a).tmod b) := by rw [Int.neg_tmod]; omega
  rw [this, Int.tmod_eq_emod_of_nonneg (by omega)]

/-- By the quotient and the rest of the number turned round. -/
theorem Sat.floor_neg (a b : Int) (hb : 1 ≤ b) : a / b = if -a % b = 0 then -(-a / b) else -(-a / b) - 1 := by
  have e := Int.mul_ediv_add_emod (-a) b
  have l := Int.emod_nonneg (-a) (b := b) (by omega)
  have u := Int.emod_lt_of_pos (-a) (b := b) (by omega)
  split
  · apply Sat.quo_of hb <;> rw [Int.mul_neg] <;> omega
  · apply Sat.quo_of hb <;> rw [Int.mul_sub, Int.mul_neg] <;> omega

theorem sat_floor (a b : Int) (ha : I64 a) (w : World) :
    Calls Try.prog 71 #[.int .i64 a, .int .i64 b] w fun e w' => e = .returned (.int .i64 (Sat.floor a b)) ∧ w = w' := by
  have hA := ha
  obtain ⟨ha1, ha2⟩ := ha
  by_cases hb : 1 ≤ b
  · have hd := Sat.div_bd a b hA hb
    by_cases hs : 0 ≤ a
    · have hm := Int.emod_nonneg a (b := b) (by omega)
      go_enter Try.func71, Try.ntmps71
      go_wp2
      all_goals (go_ret; exact ⟨ret_int (by unfold Sat.floor; rw [if_neg (by omega)]), rfl⟩)
    · have hN : I64 (-a) ∨ a = -9223372036854775808 := by unfold I64; omega
      have hd1 : a.tdiv b = -(-a / b) := Sat.tdiv_neg_of a b (by omega) hb
      have hm1 : a.tmod b = -(-a % b) := Sat.tmod_neg_of a b (by omega) hb
      have hf := Sat.floor_neg a b hb
      have l := Int.emod_nonneg (-a) (b := b) (by omega)
      have hq : -9223372036854775808 ≤ -(-a / b) ∧ -(-a / b) ≤ 9223372036854775807 := by
        have k1 := Int.ediv_le_self b (a := -a) (by omega)
        have k2 := Int.ediv_nonneg (a := -a) (b := b) (by omega) (by omega)
        omega
      have HF : Hid (a / b = if -a % b = 0 then -(-a / b) else -(-a / b) - 1) := hf
      clear hf hN
      obtain ⟨_, _, _, _⟩ := hd
      by_cases hz : -a % b = 0
      all_goals
        go_enter Try.func71, Try.ntmps71
        go_wp2
        all_goals (go_ret; exact ⟨ret_int (by unfold Sat.floor; rw [if_neg (by omega)]; have h0 := HF.out; split at h0 <;> (try unfold wrap64) <;> omega), rfl⟩)
  · go_enter Try.func71, Try.ntmps71
    go_wp2
    go_ret
    exact ⟨ret_int (by unfold Sat.floor; rw [if_pos (by omega)]), rfl⟩

theorem ref_floor (a b : Int) (ha : I64 a) (w : World) :
    Calls Try.prog 74 #[.int .i64 a, .int .i64 b] w fun e w' => e = .returned (.int .i64 (Sat.floor a b)) ∧ w = w' := by
  have hA := ha
  obtain ⟨ha1, ha2⟩ := ha
  by_cases hb : 1 ≤ b
  · have hd := Sat.div_bd a b hA hb
    by_cases hs : 0 ≤ a
    · go_enter Try.func74, Try.ntmps74
      go_wp2
      all_goals (go_ret; exact ⟨ret_int (by unfold Sat.floor; rw [if_neg (by omega)]), rfl⟩)
    · have hf : a / b = -1 - (-1 - a) / b := by
        have k := Sat.div_bd (-1 - a) b ⟨by omega, by omega⟩ hb
        apply Sat.quo_of hb <;> rw [Int.mul_sub] <;> omega
      have HF : Hid (a / b = -1 - (-1 - a) / b) := hf
      have hx : -9223372036854775808 ≤ -1 - (-1 - a) / b ∧ -1 - (-1 - a) / b ≤ 9223372036854775807 := by omega
      clear hf hd
      go_enter Try.func74, Try.ntmps74
      go_wp2
      all_goals (go_ret; exact ⟨ret_int (by unfold Sat.floor; rw [if_neg (by omega), HF.out]), rfl⟩)
  · go_enter Try.func74, Try.ntmps74
    go_wp2
    go_ret
    exact ⟨ret_int (by unfold Sat.floor; rw [if_pos (by omega)]), rfl⟩

theorem sat_ceil (a b : Int) (ha : I64 a) (w : World) :
    Calls Try.prog 134 #[.int .i64 a, .int .i64 b] w fun e w' => e = .returned (.int .i64 (Sat.ceil a b)) ∧ w = w' := by
  have hA := ha
  obtain ⟨ha1, ha2⟩ := ha
  by_cases hb : 1 ≤ b
  · by_cases hs : 0 ≤ a
    · have hm := Int.emod_nonneg a (b := b) (by omega)
      have hd := Sat.div_bd a b hA hb
      have hf := Sat.floor_neg (-a) b hb
      rw [Int.neg_neg] at hf
      have HF : Hid (-a / b = if a % b = 0 then -(a / b) else -(a / b) - 1) := hf
      have k1 := Int.ediv_le_self b (a := a) (by omega)
      have k2 := Int.ediv_nonneg (a := a) (b := b) (by omega) (by omega)
      have k3 : a % b ≠ 0 → a / b < 9223372036854775807 := fun hne => by
        have e := Int.mul_ediv_add_emod a b
        by_cases b1 : b = 1
        · subst b1; omega
        · have k4 : 2 * (a / b) ≤ b * (a / b) := Int.mul_le_mul_of_nonneg_right (by omega) k2
          omega
      have K3 : Hid (a % b ≠ 0 → a / b < 9223372036854775807) := k3
      clear hf k3
      by_cases hz : a % b = 0
      all_goals
        have k5 := K3.out
        have k6 : a % b ≠ 0 → a / b ≤ 9223372036854775806 := fun h => by have := K3.out h; omega
        clear k5
        go_enter Try.func134, Try.ntmps134
        go_wp2
        all_goals (go_ret; exact ⟨ret_int (by unfold Sat.ceil; rw [if_neg (by omega), HF.out]; split <;> (try unfold wrap64) <;> omega), rfl⟩)
    · have hd1 : a.tdiv b = -(-a / b) := Sat.tdiv_neg_of a b (by omega) hb
      have hm1 : a.tmod b = -(-a % b) := Sat.tmod_neg_of a b (by omega) hb
      have l := Int.emod_nonneg (-a) (b := b) (by omega)
      have hq : -9223372036854775808 ≤ -(-a / b) ∧ -(-a / b) ≤ 9223372036854775807 := by
        have k1 := Int.ediv_le_self b (a := -a) (by omega)
        have k2 := Int.ediv_nonneg (a := -a) (b := b) (by omega) (by omega)
        omega
      go_enter Try.func134, Try.ntmps134
      go_wp2
      all_goals (go_ret; exact ⟨ret_int (by unfold Sat.ceil; rw [if_neg (by omega)]; try (unfold wrap64; omega)), rfl⟩)
  · go_enter Try.func134, Try.ntmps134
    go_wp2
    go_ret
    exact ⟨ret_int (by unfold Sat.ceil; rw [if_pos (by omega)]), rfl⟩

theorem ref_ceil (a b : Int) (ha : I64 a) (w : World) :
    Calls Try.prog 141 #[.int .i64 a, .int .i64 b] w fun e w' => e = .returned (.int .i64 (Sat.ceil a b)) ∧ w = w' := by
  obtain ⟨ha1, ha2⟩ := ha
  by_cases hb : 1 ≤ b
  · by_cases hs : 0 < a
    · have hd := Sat.div_bd (a - 1) b ⟨by omega, by omega⟩ hb
      have hc : -a / b = -((a - 1) / b + 1) := by
        apply Sat.quo_of hb <;> rw [Int.mul_neg, Int.mul_add] <;> omega
      have k1 := Int.ediv_le_self b (a := a - 1) (by omega)
      have HC : Hid (-a / b = -((a - 1) / b + 1)) := hc
      clear hc
      go_enter Try.func141, Try.ntmps141
      go_wp2
      all_goals (go_ret; exact ⟨ret_int (by unfold Sat.ceil; rw [if_neg (by omega), HC.out]; try omega), rfl⟩)
    · have hd1 : a.tdiv b = -(-a / b) := by
        by_cases h0 : a = 0
        · subst h0; simp
        · exact Sat.tdiv_neg_of a b (by omega) hb
      have hq : -9223372036854775808 ≤ -(-a / b) ∧ -(-a / b) ≤ 9223372036854775807 := by
        have k1 := Int.ediv_le_self b (a := -a) (by omega)
        have k2 := Int.ediv_nonneg (a := -a) (b := b) (by omega) (by omega)
        omega
      go_enter Try.func141, Try.ntmps141
      go_wp2
      all_goals (go_ret; exact ⟨ret_int (by unfold Sat.ceil; rw [if_neg (by omega)]; try (unfold wrap64; omega)), rfl⟩)
  · go_enter Try.func141, Try.ntmps141
    go_wp2
    go_ret
    exact ⟨ret_int (by unfold Sat.ceil; rw [if_pos (by omega)]), rfl⟩


/-! ### Mul -/
theorem Sat.exact_yes (a b : Int) (ha : I64 a) (hb : b ≠ 0) (h : I64 (a * b)) : wrap64 (a * b) = a * b ∧ (a * b).tdiv b = a ∧ wrap64 a = a ∧ ¬(a = -9223372036854775808 ∧ b = -1) := by
  refine ⟨IntWalk.wrap64_in _ h, Int.mul_tdiv_cancel _ hb, IntWalk.wrap64_in _ ha, ?_⟩
  rintro ⟨rfl, rfl⟩
  obtain ⟨_, h2⟩ := h
  omega

theorem Sat.exact_no (a b : Int) (ha : I64 a) (hb : b ≠ 0) (hB : I64 b) (h : ¬ I64 (a * b)) (hne : ¬(a = -9223372036854775808 ∧ b = -1)) : ¬ wrap64 ((wrap64 (a * b)).tdiv b) = a := by
  intro he
  obtain ⟨ha1, ha2⟩ := ha
  obtain ⟨hb1, hb2⟩ := hB
  have hx : I64 (wrap64 (a * b)) := by unfold wrap64 I64; omega
  have hk : ∃ k : Int, wrap64 (a * b) = a * b - 18446744073709551616 * k := ⟨(a * b + 9223372036854775808) / 18446744073709551616, by unfold wrap64; omega⟩
  generalize wrap64 (a * b) = x at *
  obtain ⟨k, hk⟩ := hk
  have e := Int.tmod_add_mul_tdiv x b
  have hr : (x.tmod b).natAbs < b.natAbs := by
    rw [Int.natAbs_tmod]
    exact Nat.mod_lt _ (by omega)
  obtain ⟨x1, x2⟩ := hx
  have hq : x.tdiv b = a := by
    by_cases hs : x = -9223372036854775808 ∧ b = -1
    · obtain ⟨rfl, rfl⟩ := hs
      exfalso
      apply hne
      refine ⟨?_, rfl⟩
      rw [← he]
      unfold wrap64
      decide
    · have hlo : -9223372036854775808 ≤ x.tdiv b ∧ x.tdiv b ≤ 9223372036854775807 := by
        have hna : (x.tdiv b).natAbs = x.natAbs / b.natAbs := Int.natAbs_tdiv _ _
        have hle := Nat.div_le_self x.natAbs b.natAbs
        by_cases hxm : x = -9223372036854775808
        · by_cases hb1 : b = 1
          · subst hb1; rw [Int.tdiv_one] at *; omega
          · have h2 : 2 ≤ b.natAbs := by omega
            have h3 : x.natAbs / b.natAbs ≤ x.natAbs / 2 := Nat.div_le_div_left h2 (by omega)
            omega
        · omega
      rw [← he, IntWalk.wrap64_in _ hlo]
  rw [hq] at e
  rw [Int.mul_comm] at e
  apply h
  have hk0 : k = 0 := by omega
  subst hk0
  unfold I64
  omega

theorem sat_exact (a b : Int) (ha : I64 a) (hb : I64 b) (h0 : ¬ b = 0) (w : World) :
    Calls Try.prog 106 #[.int .i64 a, .int .i64 b] w fun e w' => e = .returned (.bool (decide (I64 (a * b)))) ∧ w = w' := by
  by_cases h : I64 (a * b)
  · obtain ⟨e1, e2, e3, e4⟩ := Sat.exact_yes a b ha h0 h
    obtain ⟨ha1, ha2⟩ := ha
    obtain ⟨hb1, hb2⟩ := hb
    have HH : Hid (I64 (a * b)) := h
    clear h
    by_cases hm : a = -9223372036854775808
    · subst hm
      have e5 : ¬ b = -1 := fun h' => e4 ⟨rfl, h'⟩
      have e6 : (b == -1) = false := by simpa using e5
      clear e4
      go_enter Try.func106, Try.ntmps106
      go_wp2
      all_goals (go_ret; exact ⟨ret_bool (by rw [decide_eq_true HH.out]; try rfl), rfl⟩)
    · clear e4
      go_enter Try.func106, Try.ntmps106
      go_wp2
      all_goals (go_ret; exact ⟨ret_bool (by rw [decide_eq_true HH.out]), rfl⟩)
  · have HH : Hid (¬ I64 (a * b)) := h
    by_cases hs : a = -9223372036854775808 ∧ b = -1
    · obtain ⟨rfl, rfl⟩ := hs
      clear h
      go_enter Try.func106, Try.ntmps106
      go_wp2
      all_goals (go_ret; exact ⟨ret_bool (by rw [decide_eq_false HH.out]; try rfl), rfl⟩)
    · have hn := Sat.exact_no a b ha h0 hb h hs
      obtain ⟨ha1, ha2⟩ := ha
      obtain ⟨hb1, hb2⟩ := hb
      clear h hs
      go_enter Try.func106, Try.ntmps106
      go_wp2
      all_goals (go_ret; exact ⟨ret_bool (by rw [decide_eq_false HH.out]), rfl⟩)

theorem Sat.neg_of_mul {a b : Int} (ha : a < 0) (hb : 0 < b) : a * b < 0 := Int.mul_neg_of_neg_of_pos ha hb

theorem Sat.sign_same (a b : Int) (h : (a < 0) = (b < 0)) (ha : a ≠ 0) (hb : b ≠ 0) : 0 < a * b := by
  by_cases h1 : a < 0
  · have h2 : b < 0 := by rw [← h]; exact h1
    exact Int.mul_pos_of_neg_of_neg h1 h2
  · have h2 : ¬ b < 0 := by rw [← h]; exact h1
    exact Int.mul_pos (by omega) (by omega)

theorem Sat.sign_apart (a b : Int) (h : ¬((a < 0) = (b < 0))) (ha : a ≠ 0) (hb : b ≠ 0) : a * b < 0 := by
  by_cases h1 : a < 0
  · by_cases h2 : b < 0
    · exact absurd (by simp [h1, h2]) h
    · exact Int.mul_neg_of_neg_of_pos h1 (by omega)
  · by_cases h2 : b < 0
    · exact Int.mul_neg_of_pos_of_neg (by omega) h2
    · exact absurd (by simp [h1, h2]) h

def Sat.fits (a b : Int) : Bool := decide (I64 (a * b))
theorem Sat.fits_iff (a b : Int) : Sat.fits a b = true ↔ I64 (a * b) := by unfold Sat.fits; simp

theorem sat_mul (a b : Int) (ha : I64 a) (hb : I64 b) (w : World) :
    Calls Try.prog 73 #[.int .i64 a, .int .i64 b] w fun e w' => e = .returned (.int .i64 (Sat.clamp (a * b))) ∧ w = w' := by
  have hA := ha
  have hB := hb
  obtain ⟨ha1, ha2⟩ := ha
  obtain ⟨hb1, hb2⟩ := hb
  by_cases a0 : a = 0
  · subst a0
    go_enter Try.func73, Try.ntmps73
    go_wp2
    all_goals (go_ret; exact ⟨ret_int (by rw [Int.zero_mul]; rfl), rfl⟩)
  by_cases b0 : b = 0
  · subst b0
    go_enter Try.func73, Try.ntmps73
    go_wp2
    all_goals (go_ret; exact ⟨ret_int (by rw [Int.mul_zero]; rfl), rfl⟩)
  have f1 : (a == 0) = false := by simpa using a0
  have f2 : (b == 0) = false := by simpa using b0
  by_cases h : I64 (a * b)
  · have hx := sat_exact a b hA hB b0
    rw [decide_eq_true h] at hx
    have e1 : wrap64 (a * b) = a * b := IntWalk.wrap64_in _ h
    have e2 := Sat.clamp_of h
    clear h
    have HE : Hid (Sat.clamp (a * b) = a * b) := e2
    clear e2
    go_enter Try.func73, Try.ntmps73
    go_wp2_with (go_at_call 106; refine (hx _).mono ?_; rintro e w' ⟨rfl, rfl⟩)
    all_goals (go_ret; exact ⟨ret_int (by rw [HE.out]; first | rfl | exact e1), rfl⟩)
  · have hx := sat_exact a b hA hB b0
    rw [decide_eq_false h] at hx
    have s1 := Sat.sign_same a b
    have s2 := Sat.sign_apart a b
    have HE : Hid (Sat.clamp (a * b) = if (a < 0) = (b < 0) then 9223372036854775807 else -9223372036854775808) := by
      show Sat.clamp (a * b) = _
      unfold I64 at h
      by_cases hs : (a < 0) = (b < 0)
      · rw [if_pos hs]; have := s1 hs a0 b0; unfold Sat.clamp; rw [if_neg (by omega), if_pos (by omega)]
      · rw [if_neg hs]; have := s2 hs a0 b0; unfold Sat.clamp; rw [if_pos (by omega)]
    clear s1 s2 h
    cases d1 : decide (a < 0) <;> cases d2 : decide (b < 0)
    all_goals
      have c1 := d1
      have c2 := d2
      simp only [decide_eq_true_eq, decide_eq_false_iff_not] at c1 c2
      go_enter Try.func73, Try.ntmps73
      go_wp2_with (go_at_call 106; refine (hx _).mono ?_; rintro e w' ⟨rfl, rfl⟩)
      all_goals (go_ret; exact ⟨ret_int (by rw [HE.out]; first | rw [if_pos (by simp; omega)] | rw [if_neg (by simp; omega)]), rfl⟩)

theorem ref_far (a : Int) (ha : I64 a) (w : World) :
    Calls Try.prog 107 #[.int .i64 a] w fun e w' => e = .returned (.int .u64 a.natAbs) ∧ w = w' := by
  obtain ⟨ha1, ha2⟩ := ha
  by_cases h : 0 ≤ a
  all_goals
    go_enter Try.func107, Try.ntmps107
    go_wp2
    all_goals (go_ret; exact ⟨ret_int (by omega), rfl⟩)

theorem Sat.far_mul (a b : Int) : (a * b).natAbs = a.natAbs * b.natAbs := Int.natAbs_mul a b

def Sat.refMul (a b : Int) (x y : Nat) : Int := if (decide (a < 0) == decide (b < 0)) = true then (if 9223372036854775807 / (y : Int) < x then 9223372036854775807 else (x : Int) * y) else (if 9223372036854775808 / (y : Int) < x then -9223372036854775808 else - ((x : Int) * y))

theorem Sat.refMul_eq (a b : Int) (a0 : ¬ a = 0) (b0 : ¬ b = 0) : Sat.refMul a b a.natAbs b.natAbs = Sat.clamp (a * b) := by
  have hm := Sat.far_mul a b
  have s1 := Sat.sign_same a b
  have s2 := Sat.sign_apart a b
  have q1 : (9223372036854775807 : Int) / (b.natAbs : Int) < a.natAbs ↔ 9223372036854775807 < (a.natAbs : Int) * b.natAbs := Int.ediv_lt_iff_lt_mul (by omega)
  have q2 : (9223372036854775808 : Int) / (b.natAbs : Int) < a.natAbs ↔ 9223372036854775808 < (a.natAbs : Int) * b.natAbs := Int.ediv_lt_iff_lt_mul (by omega)
  have hm' : ((a * b).natAbs : Int) = (a.natAbs : Int) * b.natAbs := by rw [hm]; simp
  unfold Sat.refMul
  simp only [q1, q2]
  generalize (a.natAbs : Int) * (b.natAbs : Int) = z at *
  generalize a * b = u at *
  clear hm q1 q2
  unfold Sat.clamp
  by_cases hs : (a < 0) = (b < 0)
  · rw [if_pos (by simp [hs])]; have := s1 hs a0 b0; repeat' split
    all_goals omega
  · rw [if_neg (by intro h; apply hs; simpa using h)]; have := s2 hs a0 b0; repeat' split
    all_goals omega

theorem Sat.refMul_facts (x y : Nat) (hx : 1 ≤ x) (hy : 1 ≤ y) : 1 ≤ (x : Int) * y ∧ (¬ 9223372036854775807 / (y : Int) < x → (x : Int) * y ≤ 9223372036854775807) ∧ (¬ 9223372036854775808 / (y : Int) < x → (x : Int) * y ≤ 9223372036854775808) ∧
    0 ≤ 9223372036854775807 / (y : Int) ∧ 9223372036854775807 / (y : Int) ≤ 9223372036854775807 ∧ 0 ≤ 9223372036854775808 / (y : Int) ∧ 9223372036854775808 / (y : Int) ≤ 9223372036854775808 := by
  have q1 : (9223372036854775807 : Int) / (y : Int) < x ↔ 9223372036854775807 < (x : Int) * y := Int.ediv_lt_iff_lt_mul (by omega)
  have q2 : (9223372036854775808 : Int) / (y : Int) < x ↔ 9223372036854775808 < (x : Int) * y := Int.ediv_lt_iff_lt_mul (by omega)
  have hp : 1 ≤ (x : Int) * y := Int.mul_pos (by omega) (by omega)
  exact ⟨hp, fun h => by omega, fun h => by omega, Int.ediv_nonneg (by omega) (by omega), Int.ediv_le_self _ (by omega), Int.ediv_nonneg (by omega) (by omega), Int.ediv_le_self _ (by omega)⟩

theorem ref_mul_walk (a b : Int) (x y : Nat) (f1 : (a == 0) = false) (f2 : (b == 0) = false) (x1 : 1 ≤ x) (_ : x ≤ 9223372036854775808) (y1 : 1 ≤ y) (y2 : y ≤ 9223372036854775808)
    (hxa : ∀ w, Calls Try.prog 107 #[.int .i64 a] w fun e w' => e = .returned (.int .u64 x) ∧ w = w')
    (hya : ∀ w, Calls Try.prog 107 #[.int .i64 b] w fun e w' => e = .returned (.int .u64 y) ∧ w = w') (w : World) :
    Calls Try.prog 75 #[.int .i64 a, .int .i64 b] w fun e w' => e = .returned (.int .i64 (Sat.refMul a b x y)) ∧ w = w' := by
  obtain ⟨hp, h1, h2, b1, b2, b3, b4⟩ := Sat.refMul_facts x y x1 y1
  cases ds : (decide (a < 0) == decide (b < 0))
  · by_cases ht : 9223372036854775808 / (y : Int) < x
    · have HE : Hid (Sat.refMul a b x y = -9223372036854775808) := by show Sat.refMul a b x y = _; unfold Sat.refMul; rw [ds, if_neg (by simp), if_pos ht]
      clear h1 h2 b1 b2
      go_enter Try.func75, Try.ntmps75
      go_wp2_with (first | (go_at_call 107; (with_reducible refine (hxa _).mono ?_); rintro e w' ⟨rfl, rfl⟩) | (go_at_call 107; (with_reducible refine (hya _).mono ?_); rintro e w' ⟨rfl, rfl⟩))
      all_goals (go_ret; exact ⟨ret_int (by rw [HE.out]), rfl⟩)
    · have HE : Hid (Sat.refMul a b x y = -((x : Int) * y)) := by show Sat.refMul a b x y = _; unfold Sat.refMul; rw [ds, if_neg (by simp), if_neg ht]
      have h3 := h2 ht
      clear h1 h2 b1 b2
      go_enter Try.func75, Try.ntmps75
      go_wp2_with (first | (go_at_call 107; (with_reducible refine (hxa _).mono ?_); rintro e w' ⟨rfl, rfl⟩) | (go_at_call 107; (with_reducible refine (hya _).mono ?_); rintro e w' ⟨rfl, rfl⟩))
      all_goals (go_ret; exact ⟨ret_int (by rw [HE.out]; try omega), rfl⟩)
  · by_cases ht : 9223372036854775807 / (y : Int) < x
    · have HE : Hid (Sat.refMul a b x y = 9223372036854775807) := by show Sat.refMul a b x y = _; unfold Sat.refMul; rw [ds, if_pos rfl, if_pos ht]
      clear h1 h2 b3 b4
      go_enter Try.func75, Try.ntmps75
      go_wp2_with (first | (go_at_call 107; (with_reducible refine (hxa _).mono ?_); rintro e w' ⟨rfl, rfl⟩) | (go_at_call 107; (with_reducible refine (hya _).mono ?_); rintro e w' ⟨rfl, rfl⟩))
      all_goals (go_ret; exact ⟨ret_int (by rw [HE.out]), rfl⟩)
    · have HE : Hid (Sat.refMul a b x y = (x : Int) * y) := by show Sat.refMul a b x y = _; unfold Sat.refMul; rw [ds, if_pos rfl, if_neg ht]
      have h3 := h1 ht
      clear h1 h2 b3 b4
      go_enter Try.func75, Try.ntmps75
      go_wp2_with (first | (go_at_call 107; (with_reducible refine (hxa _).mono ?_); rintro e w' ⟨rfl, rfl⟩) | (go_at_call 107; (with_reducible refine (hya _).mono ?_); rintro e w' ⟨rfl, rfl⟩))
      all_goals (go_ret; exact ⟨ret_int (by rw [HE.out]; try omega), rfl⟩)

theorem ref_mul (a b : Int) (ha : I64 a) (hb : I64 b) (w : World) :
    Calls Try.prog 75 #[.int .i64 a, .int .i64 b] w fun e w' => e = .returned (.int .i64 (Sat.clamp (a * b))) ∧ w = w' := by
  by_cases a0 : a = 0
  · subst a0
    go_enter Try.func75, Try.ntmps75
    go_wp2
    all_goals (go_ret; exact ⟨ret_int (by rw [Int.zero_mul]; rfl), rfl⟩)
  by_cases b0 : b = 0
  · subst b0
    go_enter Try.func75, Try.ntmps75
    go_wp2
    all_goals (go_ret; exact ⟨ret_int (by rw [Int.mul_zero]; rfl), rfl⟩)
  rw [← Sat.refMul_eq a b a0 b0]
  have hxa := ref_far a ha
  have hya := ref_far b hb
  obtain ⟨ha1, ha2⟩ := ha
  obtain ⟨hb1, hb2⟩ := hb
  exact ref_mul_walk a b _ _ (by simpa using a0) (by simpa using b0) (by omega) (by omega) (by omega) (by omega) hxa hya w

/-! ### Narrow -/
def Sat.pow (n : Nat) : Int := 2 ^ n
/-- A number's lowest bits, as a number with a sign. -/
def Sat.narrow (n bits : Int) : Int := if bits < 1 ∨ 64 < bits then 0 else (n + 2 ^ (bits - 1).toNat) % 2 ^ bits.toNat - 2 ^ (bits - 1).toNat

theorem Sat.wrap_shift (n : Int) (b : Nat) (h1 : 1 ≤ b) (h2 : b ≤ 64) : wrap64 (n * 2 ^ (64 - b)) / 2 ^ (64 - b) = (n + 2 ^ (b - 1)) % 2 ^ b - 2 ^ (b - 1) := by
  have e1 : (2 : Int) ^ (64 - b) * 2 ^ b = 18446744073709551616 := by rw [← Int.pow_add, show 64 - b + b = 64 by omega]; rfl
  have e2 : (2 : Int) ^ (64 - b) * 2 ^ (b - 1) = 9223372036854775808 := by rw [← Int.pow_add, show 64 - b + (b - 1) = 63 by omega]; rfl
  have hp : (0 : Int) < 2 ^ (64 - b) := Int.pow_pos (by omega)
  unfold wrap64
  have e3 : n * 2 ^ (64 - b) + 9223372036854775808 = 2 ^ (64 - b) * (n + 2 ^ (b - 1)) := by rw [Int.mul_add, e2, Int.mul_comm]
  rw [e3, ← e1, Int.mul_emod_mul_of_pos _ _ hp, ← e2, ← Int.mul_sub, Int.mul_ediv_cancel_left _ (by omega)]

def Sat.stays (n bits : Int) : Bool := decide (1 ≤ bits ∧ bits ≤ 64 ∧ Sat.narrow n bits = n)

end Go.Proofs.Ytildjnibdappnaa
