/- The walks of layer 1's laws. -/
import Derived.Test.YthlcjigpccmbmaaSat2
import Derived.Test.YthlcjigpccmbmaaSatSum
namespace Go.Proofs.Ythlcjigpccmbmaa
open Go.ChangeShapes Go.WideShapes Go.ChangeAt Go.RowKit

theorem awake01 (w : World) : Calls Try.prog 12 #[] w fun e w' => e = .returned (.bool true) ∧ w = w' := by
  have h1 := sat_narrow 200 8
  have h2 := sat_add 9223372036854775807 1 (by unfold I64; omega) (by unfold I64; omega)
  have h3 := sat_ceil (-7) 2 (by unfold I64; omega)
  rw [show Sat.narrow 200 8 = -56 by decide, show Sat.stays 200 8 = false by decide] at h1
  rw [show Sat.clamp (9223372036854775807 + 1) = 9223372036854775807 by decide] at h2
  rw [show Sat.ceil (-7) 2 = -3 by decide] at h3
  go_enter Try.func12, Try.ntmps12
  go_wp2_with (first | (go_at_call 27; (with_reducible refine (h1 _).mono ?_); rintro e w' ⟨rfl, rfl⟩) | (go_at_call 13; (with_reducible refine (h2 _).mono ?_); rintro e w' ⟨rfl, rfl⟩) | (go_at_call 24; (with_reducible refine (h3 _).mono ?_); rintro e w' ⟨rfl, rfl⟩))
  go_ret
  exact ⟨rfl, rfl⟩

theorem satAdds_walk (a b : Int) (ha : I64 a) (hb : I64 b) (w : World) :
    Calls Try.prog 3 #[.int .i64 a, .int .i64 b] w fun e w' => e = .returned (.bool true) ∧ w = w' := by
  have hc := Int.add_comm b a
  have h1 := sat_add a b ha hb
  have h2 := sat_add b a hb ha
  have h3 := ref_add a b ha hb
  rw [hc] at h2
  clear hc
  go_enter Try.func3, Try.ntmps3
  go_wp2_with (first | (go_at_call 12; (with_reducible refine (awake01 _).mono ?_); rintro e w' ⟨rfl, rfl⟩) | (go_at_call 13; (with_reducible refine (h1 _).mono ?_); rintro e w' ⟨rfl, rfl⟩) | (go_at_call 13; (with_reducible refine (h2 _).mono ?_); rintro e w' ⟨rfl, rfl⟩) | (go_at_call 14; (with_reducible refine (h3 _).mono ?_); rintro e w' ⟨rfl, rfl⟩) | (go_at_call 15; (with_reducible refine (sat_sub _ _ ha hb _).mono ?_); rintro e w' ⟨rfl, rfl⟩) | (go_at_call 16; (with_reducible refine (ref_sub _ _ ha hb _).mono ?_); rintro e w' ⟨rfl, rfl⟩))
  go_ret
  exact ⟨rfl, rfl⟩

theorem satMuls_walk (a b : Int) (ha : I64 a) (hb : I64 b) (w : World) :
    Calls Try.prog 4 #[.int .i64 a, .int .i64 b] w fun e w' => e = .returned (.bool true) ∧ w = w' := by
  have hc := Int.mul_comm b a
  have h1 := sat_mul a b ha hb
  have h2 := sat_mul b a hb ha
  have h3 := ref_mul a b ha hb
  have h4 := sat_mul a 1 ha (by unfold I64; omega)
  have h5 := sat_mul a 0 ha (by unfold I64; omega)
  rw [hc] at h2
  rw [Int.mul_one, Sat.clamp_of ha] at h4
  rw [Int.mul_zero, Sat.clamp_of (by unfold I64; omega)] at h5
  clear hc
  go_enter Try.func4, Try.ntmps4
  go_wp2_with (first | (go_at_call 12; (with_reducible refine (awake01 _).mono ?_); rintro e w' ⟨rfl, rfl⟩) | (go_at_call 17; (with_reducible refine (h1 _).mono ?_); rintro e w' ⟨rfl, rfl⟩) | (go_at_call 17; (with_reducible refine (h2 _).mono ?_); rintro e w' ⟨rfl, rfl⟩) | (go_at_call 17; (with_reducible refine (h4 _).mono ?_); rintro e w' ⟨rfl, rfl⟩) | (go_at_call 17; (with_reducible refine (h5 _).mono ?_); rintro e w' ⟨rfl, rfl⟩) | (go_at_call 18; (with_reducible refine (h3 _).mono ?_); rintro e w' ⟨rfl, rfl⟩))
  go_ret
  exact ⟨rfl, rfl⟩

theorem satSums_walk (p : Option Addr) (cap : Nat) (l : List Int) (n lo hi : Int) (w : World) (hs : Ints .i64 w p l) (hl : ∀ n ∈ l, I64 n) (hb : l.length ≤ 9223372036854775807) :
    Calls Try.prog 5 #[.slice p l.length cap, .int .i64 n, .int .i64 lo, .int .i64 hi] w fun e w' => e = .returned (.bool true) ∧ w = w' := by
  have h1 := sat_sum p cap l w hs hl hb
  have h2 := ref_sum p cap l w hs hl hb
  by_cases h : (l.length : Int) ≤ 300
  all_goals
    have HS := Lib.hid hs
    have HL := Lib.hid hl
    clear hs hl
    go_enter Try.func5, Try.ntmps5
    go_wp2_with (first | (go_at_call 12; (with_reducible refine (awake01 _).mono ?_); rintro e w' ⟨rfl, rfl⟩) | (go_at_call 19; (with_reducible refine (h1).mono ?_); rintro e w' ⟨rfl, rfl⟩) | (go_at_call 20; (with_reducible refine (h2).mono ?_); rintro e w' ⟨rfl, rfl⟩) | (go_at_call 21; (with_reducible refine (sat_clamp _ _ _ _).mono ?_); rintro e w' ⟨rfl, rfl⟩) | (go_at_call 22; (with_reducible refine (ref_clamp _ _ _ _).mono ?_); rintro e w' ⟨rfl, rfl⟩))
    go_ret
    exact ⟨rfl, rfl⟩

theorem satDivides_walk (a b : Int) (ha : I64 a) (hb : I64 b) (w : World) :
    Calls Try.prog 6 #[.int .i64 a, .int .i64 b] w fun e w' => e = .returned (.bool true) ∧ w = w' := by
  have h1 := sat_floor a b ha
  have h2 := ref_floor a b ha
  have h3 := sat_ceil a b ha
  have h4 := ref_ceil a b ha
  by_cases h : b < 1
  · have e1 : Sat.floor a b = 0 := by unfold Sat.floor; rw [if_pos h]
    have e2 : Sat.ceil a b = 0 := by unfold Sat.ceil; rw [if_pos h]
    rw [e1] at h1 h2
    rw [e2] at h3 h4
    clear e1 e2 ha hb
    go_enter Try.func6, Try.ntmps6
    go_wp2_with (first | (go_at_call 12; (with_reducible refine (awake01 _).mono ?_); rintro e w' ⟨rfl, rfl⟩) | (go_at_call 23; (with_reducible refine (h1 _).mono ?_); rintro e w' ⟨rfl, rfl⟩) | (go_at_call 25; (with_reducible refine (h2 _).mono ?_); rintro e w' ⟨rfl, rfl⟩) | (go_at_call 24; (with_reducible refine (h3 _).mono ?_); rintro e w' ⟨rfl, rfl⟩) | (go_at_call 26; (with_reducible refine (h4 _).mono ?_); rintro e w' ⟨rfl, rfl⟩))
    go_ret
    exact ⟨rfl, rfl⟩
  · have e1 : Sat.floor a b = a / b := by unfold Sat.floor; rw [if_neg h]
    rw [e1] at h1 h2
    clear e1
    have hd := Sat.div_bd a b ha (by omega)
    have hf := Sat.floor_neg (-a) b (by omega)
    rw [Int.neg_neg] at hf
    have hm := Int.mul_ediv_add_emod a b
    have hr0 := Int.emod_nonneg a (b := b) (by omega)
    have hr1 := Int.emod_lt_of_pos a (b := b) (by omega)
    have hrest : wrap64 (a - wrap64 (a / b * b)) = a % b := by
      rw [Int.mul_comm] at hm
      obtain ⟨hb1, hb2⟩ := hb
      generalize a / b * b = x at *
      unfold wrap64
      omega
    have hc : a % b ≠ 0 → a / b + 1 ≤ 9223372036854775807 := fun hne => by
      obtain ⟨ha1, ha2⟩ := ha
      by_cases hs : 0 ≤ a
      · have k2 := Int.ediv_nonneg (a := a) (b := b) (by omega) (by omega)
        have hb2 : b ≠ 1 := by rintro rfl; omega
        have k4 : 2 * (a / b) ≤ b * (a / b) := Int.mul_le_mul_of_nonneg_right (by omega) k2
        omega
      · have := Int.ediv_neg_of_neg_of_pos (a := a) (b := b) (by omega) (by omega); omega
    by_cases hz : a % b = 0
    · have e2 : Sat.ceil a b = a / b := by unfold Sat.ceil; rw [if_neg h]; rw [if_pos hz] at hf; omega
      rw [e2] at h3 h4
      rw [hz] at hrest
      generalize a / b = q at *
      clear e2 hf hm hr0 hr1 hc hd hz ha hb
      have hb1 : 1 ≤ b := by omega
      clear h
      go_enter Try.func6, Try.ntmps6
      go_wp2_with (first | (go_at_call 12; (with_reducible refine (awake01 _).mono ?_); rintro e w' ⟨rfl, rfl⟩) | (go_at_call 23; (with_reducible refine (h1 _).mono ?_); rintro e w' ⟨rfl, rfl⟩) | (go_at_call 25; (with_reducible refine (h2 _).mono ?_); rintro e w' ⟨rfl, rfl⟩) | (go_at_call 24; (with_reducible refine (h3 _).mono ?_); rintro e w' ⟨rfl, rfl⟩) | (go_at_call 26; (with_reducible refine (h4 _).mono ?_); rintro e w' ⟨rfl, rfl⟩))
      go_ret
      exact ⟨rfl, rfl⟩
    · have e2 : Sat.ceil a b = a / b + 1 := by unfold Sat.ceil; rw [if_neg h]; rw [if_neg hz] at hf; omega
      rw [e2] at h3 h4
      have hq1 := hd.1
      have hq2 := hc hz
      have hr2 : 1 ≤ a % b := by omega
      generalize a / b = q at *
      generalize a % b = r at *
      clear e2 hf hm hr0 hc hd ha hb
      have hb1 : 1 ≤ b := by omega
      have hr3 : (r == 0) = false := by simpa using hz
      have hq3 : (q + 1 == q) = false := by simp; omega
      clear h hz
      go_enter Try.func6, Try.ntmps6
      go_wp2_with (first | (go_at_call 12; (with_reducible refine (awake01 _).mono ?_); rintro e w' ⟨rfl, rfl⟩) | (go_at_call 23; (with_reducible refine (h1 _).mono ?_); rintro e w' ⟨rfl, rfl⟩) | (go_at_call 25; (with_reducible refine (h2 _).mono ?_); rintro e w' ⟨rfl, rfl⟩) | (go_at_call 24; (with_reducible refine (h3 _).mono ?_); rintro e w' ⟨rfl, rfl⟩) | (go_at_call 26; (with_reducible refine (h4 _).mono ?_); rintro e w' ⟨rfl, rfl⟩))
      go_ret
      exact ⟨rfl, rfl⟩

theorem Sat.narrow_narrow (n : Int) (b c : Nat) (h1 : 1 ≤ b) (h2 : b ≤ c) (h3 : c ≤ 64) : Sat.narrow (Sat.narrow n b) c = Sat.narrow n b := by
  have e : ∀ (m : Int) (d : Nat), 1 ≤ d → d ≤ 64 → Sat.narrow m d = (m + 2 ^ (d - 1)) % 2 ^ d - 2 ^ (d - 1) := by
    intro m d k1 k2
    unfold Sat.narrow; rw [if_neg (by omega)]
    have e1 : ((d : Int) - 1).toNat = d - 1 := by omega
    have e2 : (d : Int).toNat = d := by omega
    rw [e1, e2]
  rw [e _ c (by omega) h3, e n b h1 (by omega)]
  have hp : (2 : Int) ^ (b - 1) ≤ 2 ^ (c - 1) := by
    have : (2 : Nat) ^ (b - 1) ≤ 2 ^ (c - 1) := Nat.pow_le_pow_right (by omega) (by omega)
    have k1 : ((2 ^ (b - 1) : Nat) : Int) = 2 ^ (b - 1) := by simp
    have k2 : ((2 ^ (c - 1) : Nat) : Int) = 2 ^ (c - 1) := by simp
    omega
  have eb : (2 : Int) ^ b = 2 * 2 ^ (b - 1) := by rw [show b = (b - 1) + 1 by omega, Int.pow_succ, Int.mul_comm]; simp
  have ec : (2 : Int) ^ c = 2 * 2 ^ (c - 1) := by rw [show c = (c - 1) + 1 by omega, Int.pow_succ, Int.mul_comm]; simp
  have hb0 : (0 : Int) < 2 ^ (b - 1) := Int.pow_pos (by omega)
  have l := Int.emod_nonneg (n + 2 ^ (b - 1)) (b := 2 ^ b) (by omega)
  have u := Int.emod_lt_of_pos (n + 2 ^ (b - 1)) (b := 2 ^ b) (by omega)
  rw [Int.emod_eq_of_lt (by omega) (by omega)]
  omega

theorem satNarrows_walk (n bits more : Int) (hb : I64 bits) (hm : U8 more) (w : World) :
    Calls Try.prog 7 #[.int .i64 n, .int .i64 bits, .int .u8 more] w fun e w' => e = .returned (.bool true) ∧ w = w' := by
  have h1 := sat_narrow n bits
  have h2 := ref_narrow n bits
  obtain ⟨hm1, hm2⟩ := hm
  obtain ⟨hb1, hb2⟩ := hb
  by_cases h : 1 ≤ bits ∧ bits ≤ 64
  · obtain ⟨k1, k2⟩ := h
    have r0 := Int.emod_nonneg more (b := 65 - bits) (by omega)
    have r1 := Int.emod_lt_of_pos more (b := 65 - bits) (by omega)
    have h3 := sat_narrow (Sat.narrow n bits) (bits + more % (65 - bits))
    have e3 : Sat.narrow (Sat.narrow n bits) (bits + more % (65 - bits)) = Sat.narrow n bits := by
      have := Sat.narrow_narrow n bits.toNat (bits + more % (65 - bits)).toNat (by omega) (by omega) (by omega)
      rwa [show (bits.toNat : Int) = bits by omega, show ((bits + more % (65 - bits)).toNat : Int) = bits + more % (65 - bits) by omega] at this
    have e4 : Sat.stays (Sat.narrow n bits) (bits + more % (65 - bits)) = true := by
      unfold Sat.stays; exact decide_eq_true ⟨by omega, by omega, e3⟩
    rw [e3, e4] at h3
    have e5 : Sat.stays n bits = (Sat.narrow n bits == n) := by
      unfold Sat.stays
      rw [Bool.eq_iff_iff]
      simp [k1, k2]
    rw [e5] at h1
    clear e3 e4 e5
    generalize Sat.narrow n bits = x at *
    cases hx : (x == n)
    all_goals
      go_enter Try.func7, Try.ntmps7
      go_wp2_with (first | (go_at_call 12; (with_reducible refine (awake01 _).mono ?_); rintro e w' ⟨rfl, rfl⟩) | (go_at_call 27; (with_reducible refine (h1 _).mono ?_); rintro e w' ⟨rfl, rfl⟩) | (go_at_call 28; (with_reducible refine (h2 _).mono ?_); rintro e w' ⟨rfl, rfl⟩) | (go_at_call 27; (with_reducible refine (h3 _).mono ?_); rintro e w' ⟨rfl, rfl⟩))
      go_ret
      exact ⟨rfl, rfl⟩
  · have e1 : Sat.stays n bits = false := by unfold Sat.stays; exact decide_eq_false (by omega)
    rw [e1] at h1
    clear e1
    by_cases hlow : bits < 1
    all_goals
      go_enter Try.func7, Try.ntmps7
      go_wp2_with (first | (go_at_call 12; (with_reducible refine (awake01 _).mono ?_); rintro e w' ⟨rfl, rfl⟩) | (go_at_call 27; (with_reducible refine (h1 _).mono ?_); rintro e w' ⟨rfl, rfl⟩) | (go_at_call 28; (with_reducible refine (h2 _).mono ?_); rintro e w' ⟨rfl, rfl⟩))
      all_goals go_ret
      all_goals exact ⟨rfl, rfl⟩
end Go.Proofs.Ythlcjigpccmbmaa
