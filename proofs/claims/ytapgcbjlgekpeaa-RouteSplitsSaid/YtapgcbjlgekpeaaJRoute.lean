/- Contracts of layer 5 (route) and of its reference. -/
import Derived.Test.YtapgcbjlgekpeaaJLaws04
namespace Go.Proofs.Ytapgcbjlgekpeaa
open Go.ChangeShapes Go.WideShapes Go.ChangeAt Go.RowKit

/-- The power of two that n is; -1: none. -/
def Route.bits (n : Int) : Int := if n = 1 then 0 else if n = 2 then 1 else if n = 4 then 2 else if n = 8 then 3 else if n = 16 then 4 else if n = 32 then 5 else if n = 64 then 6 else -1
theorem Route.bits_le (n : Int) : -1 ≤ Route.bits n ∧ Route.bits n ≤ 6 := by unfold Route.bits; split <;> (try split) <;> (try split) <;> (try split) <;> (try split) <;> (try split) <;> (try split) <;> omega
theorem Route.bits_out (n : Int) (h : n < 1 ∨ 64 < n) : Route.bits n = -1 := by
  unfold Route.bits
  rw [if_neg (by omega), if_neg (by omega), if_neg (by omega), if_neg (by omega), if_neg (by omega), if_neg (by omega), if_neg (by omega)]
theorem Route.bits_in (n : Nat) (h1 : 1 ≤ n) (h2 : n ≤ 64) : (2 ^ Nat.log2 n = n → Route.bits n = Nat.log2 n) ∧ (2 ^ Nat.log2 n ≠ n → Route.bits n = -1) := by
  have h : ∀ n, n < 65 → 1 ≤ n → (2 ^ Nat.log2 n = n → Route.bits n = Nat.log2 n) ∧ (2 ^ Nat.log2 n ≠ n → Route.bits n = -1) := by decide +kernel
  exact h n (by omega) h1
theorem Route.log_lt (n : Nat) (h2 : n ≤ 64) : Nat.log2 n < 7 := by
  have h : ∀ n, n < 65 → Nat.log2 n < 7 := by decide +kernel
  exact h n (by omega)
theorem Route.log_is (n k : Nat) (h1 : n / 2 ^ (k + 1) = 0) (h2 : 1 ≤ n / 2 ^ k) : Nat.log2 n = k := by
  have hp : 0 < 2 ^ k := Nat.two_pow_pos k
  have a : 2 ^ k ≤ n := by
    have := (Nat.le_div_iff_mul_le hp).1 h2
    omega
  have b : n < 2 ^ (k + 1) := by
    rcases Nat.lt_or_ge n (2 ^ (k + 1)) with h | h
    · exact h
    · have := Nat.div_pos h (Nat.two_pow_pos (k + 1))
      omega
  exact (Nat.log2_eq_iff (by omega)).2 ⟨a, b⟩

theorem route_power (n : Nat) (h1 : 1 ≤ n) (h2 : n ≤ 64) (w : World) :
    Calls Try.prog 142 #[.int .i64 n] w fun e w' => e = .returned (.int .i64 (Nat.log2 n : Nat)) ∧ w = w' := by
  go_enter Try.func142, Try.ntmps142
  go_wp2
  go_loop [0, 3] (fun x p => ∃ k : Nat, p = .int .i64 k ∧ x = .int .i64 (n / 2 ^ (k + 1) : Nat) ∧ 1 ≤ n / 2 ^ k ∧ k < 64) (fun x _ => (intOf x).toNat)
  case atStart => exact ⟨0, rfl, int_eq (by simp), by simpa using h1, by omega⟩
  case round =>
    obtain ⟨k, rfl, rfl, hk, hk2⟩ := hrel
    by_cases hz : n / 2 ^ (k + 1) = 0
    · have HE := Lib.hid (Route.log_is n k hz hk)
      rw [hz]
      clear hz hk
      go_wp2
      go_ret
      exact ⟨ret_int (congrArg Nat.cast HE.out.symm), rfl⟩
    · have hle : n / 2 ^ (k + 1) ≤ n := Nat.div_le_self _ _
      have HH : Hid (n / 2 ^ (k + 1) / 2 = n / 2 ^ (k + 1 + 1)) := by show n / 2 ^ (k + 1) / 2 = n / 2 ^ (k + 1 + 1); rw [Nat.pow_succ 2 (k + 1), Nat.div_div_eq_div_mul]
      have HK : Hid (k + 1 < 64) := by
        show k + 1 < 64
        rcases Nat.lt_or_ge (k + 1) 64 with h | h
        · exact h
        · exfalso
          have : (2 : Nat) ^ 64 ≤ 2 ^ (k + 1) := Nat.pow_le_pow_right (by omega) h
          exact hz (Nat.div_eq_of_lt (by omega))
      obtain ⟨x, ex⟩ : ∃ x, x = n / 2 ^ (k + 1) := ⟨_, rfl⟩
      have HX := Lib.hid ex
      rw [← ex] at hz hle HH ⊢
      clear ex hk
      go_wp2
      go_round
      case rel => exact ⟨k + 1, by go_num, int_eq (by have := HH.out; omega), by rw [← HX.out]; omega, HK.out⟩
      case measure => simp [intOf]; omega

theorem route_right (n : Int) (hn : I64 n) (w : World) :
    Calls Try.prog 90 #[.int .i64 n] w fun e w' => e = .returned (.bool (decide (0 ≤ Route.bits n))) ∧ w = w' := by
  by_cases h1 : n < 1
  · have HE : Hid (decide (0 ≤ Route.bits n) = false) := by show decide (0 ≤ Route.bits n) = false; rw [Route.bits_out n (.inl h1)]; rfl
    go_enter Try.func90, Try.ntmps90
    go_wp2
    go_ret
    exact ⟨ret_bool HE.out.symm, rfl⟩
  · by_cases h2 : 64 < n
    · have HE : Hid (decide (0 ≤ Route.bits n) = false) := by show decide (0 ≤ Route.bits n) = false; rw [Route.bits_out n (.inr h2)]; rfl
      go_enter Try.func90, Try.ntmps90
      go_wp2
      go_ret
      exact ⟨ret_bool HE.out.symm, rfl⟩
    · obtain ⟨m, rfl⟩ : ∃ m : Nat, n = m := ⟨n.toNat, by omega⟩
      have HP := Lib.hid (route_power m (by omega) (by omega))
      have hb := Route.bits_in m (by omega) (by omega)
      have hl := Route.log_lt m (by omega)
      obtain ⟨p, ep⟩ : ∃ p, p = Nat.log2 m := ⟨_, rfl⟩
      rw [← ep] at HP hb hl
      obtain ⟨q, eq⟩ : ∃ q, q = 2 ^ p := ⟨_, rfl⟩
      have lq : q ≤ 64 := by rw [eq]; exact Nat.pow_le_pow_right (n := 2) (i := p) (j := 6) (by omega) (by omega)
      have eqi : (2 : Int) ^ p = q := by rw [eq]; simp
      rw [← eq] at hb
      clear ep eq
      by_cases hq : q = m
      · have HE : Hid (decide (0 ≤ Route.bits m) = true) := by show decide (0 ≤ Route.bits m) = true; rw [hb.1 hq]; simp
        clear hb
        have hqi : (q : Int) = m := by omega
        go_enter Try.func90, Try.ntmps90
        go_wp2_with (with_reducible refine (HP.out _).mono ?_; rintro e w1 ⟨rfl, rfl⟩)
        go_ret
        exact ⟨ret_bool (by rw [HE.out]; try simp), rfl⟩
      · have HE : Hid (decide (0 ≤ Route.bits m) = false) := by show decide (0 ≤ Route.bits m) = false; rw [hb.2 hq]; rfl
        clear hb
        have hqi : ¬ (q : Int) = m := by omega
        go_enter Try.func90, Try.ntmps90
        go_wp2_with (with_reducible refine (HP.out _).mono ?_; rintro e w1 ⟨rfl, rfl⟩)
        go_ret
        exact ⟨ret_bool (by rw [HE.out]; simpa using hqi), rfl⟩

theorem route_bits (n : Int) (hn : I64 n) (w : World) :
    Calls Try.prog 92 #[.int .i64 n] w fun e w' => e = .returned (.int .i64 (if 0 ≤ Route.bits n then Route.bits n else 0)) ∧ w = w' := by
  have HR := Lib.hid (route_right n hn)
  by_cases h : 0 ≤ Route.bits n
  · have hd : decide (0 ≤ Route.bits n) = true := by simp [h]
    rw [hd] at HR
    rw [if_pos h]
    have h1 : ¬ (n < 1 ∨ 64 < n) := fun h2 => by have := Route.bits_out n h2; omega
    obtain ⟨m, rfl⟩ : ∃ m : Nat, n = m := ⟨n.toNat, by omega⟩
    have HP := Lib.hid (route_power m (by omega) (by omega))
    have hb := Route.bits_in m (by omega) (by omega)
    have HE : Hid (Route.bits m = Nat.log2 m) := by
      by_cases hp : 2 ^ Nat.log2 m = m
      · exact hb.1 hp
      · have := hb.2 hp; omega
    clear hd h h1 hb
    go_enter Try.func92, Try.ntmps92
    go_wp2_with (first | (with_reducible refine (HR.out _).mono ?_; rintro e w1 ⟨rfl, rfl⟩) | (with_reducible refine (HP.out _).mono ?_; rintro e w1 ⟨rfl, rfl⟩))
    go_ret
    exact ⟨ret_int HE.out.symm, rfl⟩
  · have hd : decide (0 ≤ Route.bits n) = false := by simpa using h
    rw [hd] at HR
    rw [if_neg h]
    clear hd h
    go_enter Try.func92, Try.ntmps92
    go_wp2_with (with_reducible refine (HR.out _).mono ?_; rintro e w1 ⟨rfl, rfl⟩)
    go_ret
    exact ⟨rfl, rfl⟩

/-- The stripe of a key. -/
def Route.of (hi lo : Nat) (n : Int) : Int := if 0 ≤ Route.bits n then Fnv.folded (Fnv.key hi lo) (Route.bits n) else -1
theorem Route.of_lt (hi lo : Nat) (n : Int) (h : 0 ≤ Route.bits n) : 0 ≤ Route.of hi lo n ∧ Route.of hi lo n < n := by
  have h1 : ¬ (n < 1 ∨ 64 < n) := fun h2 => by have := Route.bits_out n h2; omega
  obtain ⟨m, rfl⟩ : ∃ m : Nat, n = m := ⟨n.toNat, by omega⟩
  have hb := Route.bits_in m (by omega) (by omega)
  have hp : 2 ^ Nat.log2 m = m := by
    by_cases hp : 2 ^ Nat.log2 m = m
    · exact hp
    · have := hb.2 hp; omega
  unfold Route.of
  rw [if_pos h, hb.1 hp]
  unfold Fnv.folded
  split
  · have : Fnv.fold (Fnv.key hi lo) (Nat.log2 m) < 2 ^ Nat.log2 m := Nat.mod_lt _ (Nat.two_pow_pos _)
    rw [hp] at this
    rw [Int.toNat_natCast]
    omega
  · omega

theorem Fnv.folded_lt (h : Nat) (b : Int) : Fnv.folded h b < 4294967296 := by
  unfold Fnv.folded
  split
  · rename_i hb
    have h1 : Fnv.fold h b.toNat < 2 ^ b.toNat := Nat.mod_lt _ (Nat.two_pow_pos _)
    have h2 : (2 : Nat) ^ b.toNat ≤ 2 ^ 32 := Nat.pow_le_pow_right (by omega) (by omega)
    omega
  · omega

set_option maxRecDepth 100000 in
theorem route_of (hi lo : Nat) (h1 : hi < 18446744073709551616) (h2 : lo < 18446744073709551616) (n : Int) (hn : I64 n) (w : World) :
    Calls Try.prog 93 #[.agg #[.int .u64 hi, .int .u64 lo], .int .i64 n] w fun e w' => e = .returned (.int .i64 (Route.of hi lo n)) ∧ Below w.heap.size w w' := by
  have HR := Lib.hid (route_right n hn)
  by_cases h : 0 ≤ Route.bits n
  · have hd : decide (0 ≤ Route.bits n) = true := by simp [h]
    rw [hd] at HR
    have hbt := route_bits n hn
    rw [if_pos h] at hbt
    have hk := fnv_key hi lo h1 h2
    have hkl : Fnv.key hi lo < 18446744073709551616 := Fnv.sum_lt _
    have hb := Route.bits_le n
    have hf := fnv_fold (Fnv.key hi lo) (Route.bits n) hkl (by unfold I64; omega)
    have hfl := Fnv.folded_lt (Fnv.key hi lo) (Route.bits n)
    have he : Route.of hi lo n = Fnv.folded (Fnv.key hi lo) (Route.bits n) := by unfold Route.of; rw [if_pos h]
    rw [he]
    obtain ⟨k, ek⟩ : ∃ k, k = Fnv.key hi lo := ⟨_, rfl⟩
    rw [← ek] at hk hf hfl ⊢
    obtain ⟨f, ef⟩ : ∃ f, f = Fnv.folded k (Route.bits n) := ⟨_, rfl⟩
    rw [← ef] at hf hfl ⊢
    obtain ⟨b, eb⟩ : ∃ k, k = Route.bits n := ⟨_, rfl⟩
    rw [← eb] at hbt hf
    have HB := Lib.hid hbt
    have HK := Lib.hid hk
    have HF := Lib.hid hf
    clear hd h hbt hk hkl hb hf he ek ef eb hn
    go_enter Try.func93, Try.ntmps93
    go_wp2_with (first | (with_reducible refine (HR.out _).mono ?_; rintro e w1 ⟨rfl, rfl⟩))
    (with_reducible refine (HK.out _).mono ?_)
    rintro e w1 ⟨rfl, hb1⟩
    have HB1 := Lib.hid ((below1 w _).trans (hb1.mono (by simp)))
    clear hb1
    go_wp2_with (first | (with_reducible refine (HB.out _).mono ?_; rintro e w1 ⟨rfl, rfl⟩) | (with_reducible refine (HF.out _).mono ?_; rintro e w1 ⟨rfl, rfl⟩))
    go_ret
    exact ⟨rfl, HB1.out⟩
  · have hd : decide (0 ≤ Route.bits n) = false := by simpa using h
    rw [hd] at HR
    have he : Route.of hi lo n = -1 := by unfold Route.of; rw [if_neg h]
    rw [he]
    clear hd h he
    go_enter Try.func93, Try.ntmps93
    go_wp2_with (with_reducible refine (HR.out _).mono ?_; rintro e w1 ⟨rfl, rfl⟩)
    go_ret
    exact ⟨rfl, below1 _ _⟩

theorem Route.bits_pow (n : Int) (k : Nat) (hk : k ≤ 6) (h : n = (2 ^ k : Nat)) : Route.bits n = k := by
  subst h
  match k, hk with
  | 0, _ => rfl
  | 1, _ => rfl
  | 2, _ => rfl
  | 3, _ => rfl
  | 4, _ => rfl
  | 5, _ => rfl
  | 6, _ => rfl
theorem Route.bits_none (n : Int) (h : ∀ k, k ≤ 6 → n ≠ (2 ^ k : Nat)) : Route.bits n = -1 := by
  have h0 := h 0 (by omega)
  have h1 := h 1 (by omega)
  have h2 := h 2 (by omega)
  have h3 := h 3 (by omega)
  have h4 := h 4 (by omega)
  have h5 := h 5 (by omega)
  have h6 := h 6 (by omega)
  unfold Route.bits
  simp at h0 h1 h2 h3 h4 h5 h6
  rw [if_neg h0, if_neg h1, if_neg h2, if_neg h3, if_neg h4, if_neg h5, if_neg h6]

theorem ref_bits (n : Int) (_ : I64 n) (w : World) :
    Calls Try.prog 28 #[.int .i64 n] w fun e w' => e = .returned (.int .i64 (Route.bits n)) ∧ w = w' := by
  go_enter Try.func28, Try.ntmps28
  go_wp2
  go_loop [3, 4] (fun p i => ∃ k : Nat, k ≤ 7 ∧ i = .int .i64 k ∧ p = .int .i64 (2 ^ k : Nat) ∧ ∀ j, j < k → n ≠ (2 ^ j : Nat)) (fun _ i => 7 - (intOf i).toNat)
  case atStart => exact ⟨0, by omega, rfl, rfl, fun j hj => by omega⟩
  case round =>
    obtain ⟨k, hk, rfl, rfl, hj⟩ := hrel
    by_cases hlt : k < 7
    · have hq : (2 : Nat) ^ k ≤ 2 ^ 6 := Nat.pow_le_pow_right (by omega) (by omega)
      have HS : Hid ((2 : Nat) ^ (k + 1) = 2 ^ k * 2) := Nat.pow_succ 2 k
      have HB := Lib.hid (Route.bits_pow n k (by omega))
      have HJ := Lib.hid hj
      obtain ⟨q, eq⟩ : ∃ q, q = 2 ^ k := ⟨_, rfl⟩
      have HQ := Lib.hid eq
      rw [← eq] at hq HS HB ⊢
      clear eq hj
      by_cases hn2 : n = (q : Int)
      · have HE := Lib.hid (HB.out hn2)
        clear HB
        go_wp2
        go_ret
        exact ⟨ret_int (by rw [← hn2]; exact HE.out.symm), rfl⟩
      · clear HB
        have HN := Lib.hid hn2
        go_wp2
        go_round
        case rel => exact ⟨k + 1, by omega, by go_num, int_eq (by rw [HS.out]; omega), fun j h => by
          by_cases hjk : j = k
          · rw [hjk, ← HQ.out]; exact HN.out
          · exact HJ.out j (by omega)⟩
        case measure => simp [intOf]; omega
    · obtain rfl : k = 7 := by omega
      have HE := Lib.hid (Route.bits_none n (fun k h => hj k (by omega)))
      clear hj
      go_wp2
      go_ret
      exact ⟨ret_int HE.out.symm, rfl⟩

set_option maxRecDepth 100000 in
theorem ref_route_of (hi lo : Nat) (h1 : hi < 18446744073709551616) (h2 : lo < 18446744073709551616) (n : Int) (hn : I64 n) (w : World) :
    Calls Try.prog 95 #[.agg #[.int .u64 hi, .int .u64 lo], .int .i64 n] w fun e w' => e = .returned (.int .i64 (Route.of hi lo n)) ∧ Below w.heap.size w w' := by
  have hr := ref_bits n hn
  have hb := Route.bits_le n
  by_cases h : 0 ≤ Route.bits n
  · have hk := ref_key hi lo h1 h2
    have hkl : Fnv.key hi lo < 18446744073709551616 := Fnv.sum_lt _
    have hf := ref_fold (Fnv.key hi lo) (Route.bits n) hkl (by unfold I64; omega)
    have hfl := Fnv.folded_lt (Fnv.key hi lo) (Route.bits n)
    have he : Route.of hi lo n = Fnv.folded (Fnv.key hi lo) (Route.bits n) := by unfold Route.of; rw [if_pos h]
    rw [he]
    obtain ⟨k, ek⟩ : ∃ k, k = Fnv.key hi lo := ⟨_, rfl⟩
    rw [← ek] at hk hf hfl ⊢
    obtain ⟨f, ef⟩ : ∃ f, f = Fnv.folded k (Route.bits n) := ⟨_, rfl⟩
    rw [← ef] at hf hfl ⊢
    obtain ⟨b, eb⟩ : ∃ k, k = Route.bits n := ⟨_, rfl⟩
    rw [← eb] at hr hf h
    have HB := Lib.hid hr
    have HK := Lib.hid hk
    have HF := Lib.hid hf
    clear hr hk hkl hb hf he ek ef eb hn
    go_enter Try.func95, Try.ntmps95
    go_wp2_with (first | (with_reducible refine (HB.out _).mono ?_; rintro e w1 ⟨rfl, rfl⟩))
    (with_reducible refine (HK.out _).mono ?_)
    rintro e w1 ⟨rfl, hb1⟩
    have HB1 := Lib.hid ((below1 w _).trans (hb1.mono (by simp)))
    clear hb1
    go_wp2_with (first | (with_reducible refine (HF.out _).mono ?_; rintro e w1 ⟨rfl, rfl⟩))
    go_ret
    exact ⟨rfl, HB1.out⟩
  · have he : Route.of hi lo n = -1 := by unfold Route.of; rw [if_neg h]
    rw [he]
    obtain ⟨b, eb⟩ : ∃ k, k = Route.bits n := ⟨_, rfl⟩
    rw [← eb] at hr h
    have HB := Lib.hid hr
    clear hr hb eb he
    go_enter Try.func95, Try.ntmps95
    go_wp2_with (first | (with_reducible refine (HB.out _).mono ?_; rintro e w1 ⟨rfl, rfl⟩))
    go_ret
    exact ⟨rfl, below1 _ _⟩
end Go.Proofs.Ytapgcbjlgekpeaa
