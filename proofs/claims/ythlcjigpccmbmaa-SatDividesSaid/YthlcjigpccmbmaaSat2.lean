/- The narrowing of layer 1's reference, bit by bit. -/
import Derived.Test.YthlcjigpccmbmaaSat
namespace Go.Proofs.Ythlcjigpccmbmaa
open Go.ChangeShapes Go.WideShapes Go.ChangeAt Go.RowKit

/-- The first k bits that the reference puts together. -/
def Sat.refBits (W b : Nat) : Nat → Nat
  | 0 => 0
  | k + 1 => Sat.refBits W b k + W / 2 ^ (min k (b - 1)) % 2 * 2 ^ k

theorem Sat.refBits_lt (W b k : Nat) : Sat.refBits W b k < 2 ^ k := by
  induction k with
  | zero => simp [Sat.refBits]
  | succ k ih =>
    have h : W / 2 ^ (min k (b - 1)) % 2 < 2 := Nat.mod_lt _ (by omega)
    have h2 : W / 2 ^ (min k (b - 1)) % 2 * 2 ^ k ≤ 1 * 2 ^ k := Nat.mul_le_mul_right _ (by omega)
    rw [Sat.refBits, Nat.pow_succ]
    omega

theorem Sat.refBits_low (W b k : Nat) (h : k ≤ b) : Sat.refBits W b k = W % 2 ^ k := by
  induction k with
  | zero => simp [Sat.refBits, Nat.mod_one]
  | succ k ih =>
    rw [Sat.refBits, ih (by omega), show min k (b - 1) = k by omega, Nat.mod_pow_succ, Nat.mul_comm]

theorem Sat.refBits_high (W b k : Nat) (hb : 1 ≤ b) (h : b ≤ k) : Sat.refBits W b k + W / 2 ^ (b - 1) % 2 * 2 ^ b = W % 2 ^ b + W / 2 ^ (b - 1) % 2 * 2 ^ k := by
  induction k with
  | zero => omega
  | succ k ih =>
    by_cases hk : b ≤ k
    · have := ih hk
      rw [Sat.refBits, show min k (b - 1) = b - 1 by omega, Nat.pow_succ]
      generalize W / 2 ^ (b - 1) % 2 = s at *
      rw [← Nat.mul_assoc]
      omega
    · have : b = k + 1 := by omega
      subst this
      rw [Sat.refBits_low W (k + 1) (k + 1) (Nat.le_refl _)]

theorem Sat.narrow_ref (n : Int) (W b : Nat) (hW : (W : Int) = n % 18446744073709551616) (h1 : 1 ≤ b) (h2 : b ≤ 64) : wrap64 (Sat.refBits W b 64) = Sat.narrow n b := by
  have hn : Sat.narrow n b = (n + 2 ^ (b - 1)) % 2 ^ b - 2 ^ (b - 1) := by
    unfold Sat.narrow; rw [if_neg (by omega)]
    have e1 : ((b : Int) - 1).toNat = b - 1 := by omega
    have e2 : (b : Int).toNat = b := by omega
    rw [e1, e2]
  rw [hn]
  have hh := Sat.refBits_high W b 64 h1 h2
  have ep : (2 : Nat) ^ b = 2 * 2 ^ (b - 1) := by rw [show b = (b - 1) + 1 by omega, Nat.pow_succ, Nat.mul_comm]; simp
  have epi : (2 : Int) ^ b = 2 * 2 ^ (b - 1) := by rw [show b = (b - 1) + 1 by omega, Int.pow_succ, Int.mul_comm]; simp
  have hle : 2 ^ (b - 1) ≤ 2 ^ 63 := Nat.pow_le_pow_right (by omega) (by omega)
  have hpos : 0 < 2 ^ (b - 1) := Nat.pow_pos (by omega)
  have hcast : ((2 ^ (b - 1) : Nat) : Int) = (2 : Int) ^ (b - 1) := by simp
  have hdvd : (2 : Int) ^ b ∣ 18446744073709551616 := ⟨2 ^ (64 - b), by rw [← Int.pow_add, show b + (64 - b) = 64 by omega]; rfl⟩
  have hs : W / 2 ^ (b - 1) % 2 = W % 2 ^ b / 2 ^ (b - 1) := by rw [ep, Nat.mul_comm, Nat.mod_mul_right_div_self]
  have hr : ((W % 2 ^ b : Nat) : Int) = n % 2 ^ b := by
    rw [Int.natCast_emod, hW]
    have : ((2 ^ b : Nat) : Int) = (2 : Int) ^ b := by simp
    rw [this, Int.emod_emod_of_dvd _ hdvd]
  rw [hs] at hh
  have hrl : W % 2 ^ b < 2 ^ b := Nat.mod_lt _ (by rw [ep]; omega)
  have hq := Int.mul_ediv_add_emod n (2 ^ b)
  rw [← hr] at hq
  have hno : n + 2 ^ (b - 1) = ((W % 2 ^ b : Nat) : Int) + 2 ^ (b - 1) + 2 ^ b * (n / 2 ^ b) := by omega
  rw [hno, Int.add_mul_emod_self_left]
  generalize W % 2 ^ b = r at *
  generalize Sat.refBits W b 64 = R at *
  rw [← hcast]
  rw [epi, ← hcast]
  rw [ep] at hh hrl
  generalize 2 ^ (b - 1) = p at *
  clear hq hno hr hs hcast ep epi hdvd
  by_cases hc : r < p
  · rw [Nat.div_eq_of_lt hc] at hh
    rw [Int.emod_eq_of_lt (by omega) (by omega), IntWalk.wrap64_in _ (by omega)]
    omega
  · have h1 : r / p = 1 := by rw [Nat.div_eq_of_lt_le] <;> omega
    rw [h1] at hh
    rw [← Int.sub_emod_right, Int.emod_eq_of_lt (by omega) (by omega)]
    unfold wrap64
    omega

theorem Sat.one_step (k : Nat) : IntKind.u64.wrap (2 ^ k % 18446744073709551616 * 2) = ((2 ^ (k + 1) % 18446744073709551616 : Nat) : Int) := by
  have e : ((2 ^ (k + 1) % 18446744073709551616 : Nat) : Int) = (2 : Int) ^ (k + 1) % 18446744073709551616 := by rw [Int.natCast_emod, Int.natCast_pow]; rfl
  rw [IntKind.wrap_u64, e, Int.pow_succ]
  omega

theorem Sat.bit_yes (W b k : Nat) (hk : k < 64) (h : ((W : Int) / 2 ^ (min k (b - 1)) % 2 == 1) = true) : IntKind.u64.wrap ((Sat.refBits W b k : Int) + 2 ^ k % 18446744073709551616) = (Sat.refBits W b (k + 1) : Int) := by
  have h' : W / 2 ^ (min k (b - 1)) % 2 = 1 := by
    have e : ((W / 2 ^ (min k (b - 1)) % 2 : Nat) : Int) = (W : Int) / 2 ^ (min k (b - 1)) % 2 := by simp
    rw [← e] at h
    simp at h
    omega
  have hl := Sat.refBits_lt W b (k + 1)
  have hle : 2 ^ (k + 1) ≤ 2 ^ 64 := Nat.pow_le_pow_right (by omega) (by omega)
  have hp : (2 : Nat) ^ k * 2 = 2 ^ (k + 1) := (Nat.pow_succ ..).symm
  have hc : ((2 ^ k : Nat) : Int) = 2 ^ k := by simp
  rw [Sat.refBits, h'] at hl ⊢
  rw [IntKind.wrap_u64, ← hc]
  omega

theorem Sat.bit_no (W b k : Nat) (h : ((W : Int) / 2 ^ (min k (b - 1)) % 2 == 1) = false) : Sat.refBits W b k = Sat.refBits W b (k + 1) := by
  have h' : W / 2 ^ (min k (b - 1)) % 2 = 0 := by
    have e : ((W / 2 ^ (min k (b - 1)) % 2 : Nat) : Int) = (W : Int) / 2 ^ (min k (b - 1)) % 2 := by simp
    rw [← e] at h
    simp at h
    omega
  rw [Sat.refBits, h']
  omega

theorem ref_narrow (n bits : Int) (w : World) :
    Calls Try.prog 28 #[.int .i64 n, .int .i64 bits] w fun e w' => e = .returned (.int .i64 (Sat.narrow n bits)) ∧ w = w' := by
  by_cases h : 1 ≤ bits ∧ bits ≤ 64
  · obtain ⟨h1, h2⟩ := h
    obtain ⟨b, rfl⟩ : ∃ b : Nat, bits = b := ⟨bits.toNat, by omega⟩
    have hb1 : 1 ≤ b := by omega
    have hb2 : b ≤ 64 := by omega
    obtain ⟨W, hW⟩ : ∃ W : Nat, (W : Int) = IntKind.u64.wrap n := ⟨(IntKind.u64.wrap n).toNat, Int.toNat_of_nonneg (wrap_u64_nonneg n)⟩
    have hW' : (W : Int) = n % 18446744073709551616 := by rw [hW, IntKind.wrap_u64]
    have HF := Lib.hid (Sat.narrow_ref n W b hW' hb1 hb2)
    have hwr : IntKind.u64.wrap n = W := hW.symm
    clear hW hW'
    go_enter Try.func28, Try.ntmps28
    go_wp2
    clear hwr
    go_loop [5, 6, 8] (fun out one i => ∃ k : Nat, k ≤ 64 ∧ i = .int .i64 k ∧ out = .int .u64 (Sat.refBits W b k) ∧ one = .int .u64 (2 ^ k % 18446744073709551616 : Nat)) (fun _ _ i => 64 - (intOf i).toNat)
    case atStart => exact ⟨0, by omega, rfl, rfl, rfl⟩
    case round =>
      obtain ⟨k, hk, rfl, rfl, rfl⟩ := hrel
      have hW0 : 0 ≤ (W : Int) / 2 ^ k := Int.ediv_nonneg (by omega) (Int.le_of_lt (Int.pow_pos (by omega)))
      have hW1 : 0 ≤ (W : Int) / 2 ^ (b - 1) := Int.ediv_nonneg (by omega) (Int.le_of_lt (Int.pow_pos (by omega)))
      by_cases hlt : k < 64
      · have HY := Lib.hid (Sat.bit_yes W b k hlt)
        have HO := Lib.hid (Sat.bit_no W b k)
        have H1 := Lib.hid (Sat.one_step k)
        by_cases hkb : b ≤ k
        · have hmin : min k (b - 1) = b - 1 := by omega
          rw [hmin] at HY HO
          clear hmin
          go_wp2
          · go_round
            case rel => exact ⟨k + 1, by omega, by go_num, int_eq (HY.out (by assumption)), int_eq H1.out⟩
            case measure => simp [intOf]; omega
          · go_round
            case rel => exact ⟨k + 1, by omega, by go_num, int_eq (by rw [HO.out (by assumption)]), int_eq H1.out⟩
            case measure => simp [intOf]; omega
        · have hmin : min k (b - 1) = k := by omega
          rw [hmin] at HY HO
          clear hmin
          go_wp2
          · go_round
            case rel => exact ⟨k + 1, by omega, by go_num, int_eq (HY.out (by assumption)), int_eq H1.out⟩
            case measure => simp [intOf]; omega
          · go_round
            case rel => exact ⟨k + 1, by omega, by go_num, int_eq (by rw [HO.out (by assumption)]), int_eq H1.out⟩
            case measure => simp [intOf]; omega
      · obtain rfl : k = 64 := by omega
        go_wp2
        go_ret
        exact ⟨ret_int HF.out, rfl⟩
  · have f : Sat.narrow n bits = 0 := by unfold Sat.narrow; rw [if_pos (by omega)]
    have F := Lib.hid f
    clear f
    by_cases h1 : bits < 1
    all_goals
      go_enter Try.func28, Try.ntmps28
      go_wp2
      all_goals (go_ret; exact ⟨ret_int F.out.symm, rfl⟩)
end Go.Proofs.Ythlcjigpccmbmaa
