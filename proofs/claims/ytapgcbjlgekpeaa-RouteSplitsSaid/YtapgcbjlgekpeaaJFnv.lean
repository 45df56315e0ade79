/- Contracts of layer 4 (fnv) and of its reference. -/
import Derived.Test.YtapgcbjlgekpeaaJBase
import Derived.Lib.Hide
import Derived.Lib.SmallJoins
namespace Go.Proofs.Ytapgcbjlgekpeaa
open Go.ChangeShapes Go.WideShapes Go.ChangeAt Go.RowKit

def Fnv.step (h c : Nat) : Nat := (h ^^^ c) * 1099511628211 % 18446744073709551616
def Fnv.sum (l : List Nat) : Nat := l.foldl Fnv.step 14695981039346656037
def Fnv.step32 (h c : Nat) : Nat := (h ^^^ c) * 16777619 % 4294967296
def Fnv.sum32 (l : List Nat) : Nat := l.foldl Fnv.step32 2166136261
theorem Fnv.step_lt (h c : Nat) : Fnv.step h c < 18446744073709551616 := by unfold Fnv.step; omega
theorem Fnv.step32_lt (h c : Nat) : Fnv.step32 h c < 4294967296 := by unfold Fnv.step32; omega
theorem Fnv.foldl_lt (l : List Nat) : ∀ h, h < 18446744073709551616 → l.foldl Fnv.step h < 18446744073709551616 := by
  induction l with
  | nil => exact fun h hh => hh
  | cons a l ih => exact fun h _ => ih _ (Fnv.step_lt _ _)
theorem Fnv.sum_lt (l : List Nat) : Fnv.sum l < 18446744073709551616 := Fnv.foldl_lt l _ (by omega)
theorem Fnv.sum32_lt (l : List Nat) : Fnv.sum32 l < 4294967296 := by
  have h : ∀ (l : List Nat) h, h < 4294967296 → l.foldl Fnv.step32 h < 4294967296 := by
    intro l
    induction l with
    | nil => exact fun h hh => hh
    | cons a l ih => exact fun h _ => ih _ (Fnv.step32_lt _ _)
  exact h l _ (by omega)
theorem foldl_take {α β : Type} [Inhabited α] (f : β → α → β) (b : β) (l : List α) (k : Nat) (h : k < l.length) (d : α) : (l.take (k + 1)).foldl f b = f ((l.take k).foldl f b) (l[k]?.getD d) := by
  rw [List.take_add_one, List.foldl_append]
  simp [List.getElem?_eq_getElem h]
theorem Fnv.sum_step (l : List Nat) (k : Nat) (h : k < l.length) : Fnv.sum (l.take (k + 1)) = Fnv.step (Fnv.sum (l.take k)) (l[k]?.getD 0) := foldl_take _ _ l k h 0
theorem Fnv.sum32_step (l : List Nat) (k : Nat) (h : k < l.length) : Fnv.sum32 (l.take (k + 1)) = Fnv.step32 (Fnv.sum32 (l.take k)) (l[k]?.getD 0) := foldl_take _ _ l k h 0
theorem Fnv.step_int (x c : Nat) (hx : x < 18446744073709551616) (hc : c < 256) : IntKind.u64.wrap (bits .xor .u64 (x : Int) (IntKind.u64.wrap (c : Int)) * 1099511628211) = (Fnv.step x c : Nat) := by
  rw [show IntKind.u64.wrap (c : Int) = c by rw [IntKind.wrap_u64]; omega, bits_xor_u64_nat x c hx (by omega), IntKind.wrap_u64]
  unfold Fnv.step
  omega
theorem Fnv.step32_int (x c : Nat) (hx : x < 4294967296) (hc : c < 256) : IntKind.u32.wrap (bits .xor .u32 (x : Int) (IntKind.u32.wrap (c : Int)) * 16777619) = (Fnv.step32 x c : Nat) := by
  rw [show IntKind.u32.wrap (c : Int) = c by rw [IntKind.wrap_u32]; omega, u32_xor_nat x c hx (by omega), IntKind.wrap_u32]
  unfold Fnv.step32
  omega

theorem fnv_sum64 (s : ByteArray) (hs : s.size ≤ 9223372036854775807) (w : World) :
    Calls Try.prog 177 #[.string s] w fun e w' => e = .returned (.int .u64 (Fnv.sum (Str.bytes s))) ∧ w = w' := by
  go_enter Try.func177, Try.ntmps177
  go_wp2
  go_loop [3, 7] (fun h i => ∃ k : Nat, k ≤ s.size ∧ i = .int .i64 k ∧ h = .int .u64 (Fnv.sum ((Str.bytes s).take k))) (fun _ i => s.size - (intOf i).toNat)
  case atStart => exact ⟨0, by omega, rfl, rfl⟩
  case round =>
    obtain ⟨k, hk, rfl, rfl⟩ := hrel
    by_cases hlt : k < s.size
    · have HT := Lib.hid (Fnv.sum_step (Str.bytes s) k (by rw [Str.length]; exact hlt))
      have HX := Lib.hid (Fnv.sum_lt ((Str.bytes s).take k))
      have HA := Lib.hid (Str.at s k hlt)
      have HC := Lib.hid (Str.at_lt s k)
      go_wp2
      go_round
      case rel => exact ⟨k + 1, by omega, by go_num, int_eq (by rw [HA.out, HT.out]; exact Fnv.step_int _ _ HX.out HC.out)⟩
      case measure => simp [intOf]; omega
    · obtain rfl : k = s.size := by omega
      have HE : Hid (Fnv.sum ((Str.bytes s).take s.size) = Fnv.sum (Str.bytes s)) := by show Fnv.sum ((Str.bytes s).take s.size) = _; rw [← Str.length, List.take_length]
      go_wp2
      go_ret
      exact ⟨ret_int (congrArg Nat.cast HE.out), rfl⟩

def Fnv.fold (h b : Nat) : Nat := (h ^^^ h / 2 ^ b) % 2 ^ b
def Fnv.folded (h : Nat) (b : Int) : Nat := if 1 ≤ b ∧ b ≤ 32 then Fnv.fold h b.toNat else 0

theorem Fnv.fold_int (h b : Nat) (hh : h < 18446744073709551616) (_ : 1 ≤ b) (hb2 : b ≤ 32) :
    bits .and .u64 (bits .xor .u64 (h : Int) ((h : Int) / 2 ^ b)) (IntKind.u64.wrap (IntKind.u64.wrap (2 ^ b) - 1)) = (Fnv.fold h b : Nat) := by
  have hp : 0 < 2 ^ b := Nat.two_pow_pos b
  have hq : (2 : Nat) ^ b ≤ 2 ^ 32 := Nat.pow_le_pow_right (by omega) hb2
  have hd : h / 2 ^ b ≤ h := Nat.div_le_self _ _
  have hc : ((2 ^ b : Nat) : Int) = 2 ^ b := by simp
  have hw : IntKind.u64.wrap (IntKind.u64.wrap (2 ^ b) - 1) = 2 ^ b - 1 := by
    rw [IntKind.wrap_u64, IntKind.wrap_u64, ← hc]; omega
  rw [hw, show (h : Int) / 2 ^ b = ((h / 2 ^ b : Nat) : Int) by rw [← hc]; exact (Int.natCast_ediv _ _).symm, bits_xor_u64_nat _ _ hh (by omega), ← hc,
    show ((2 ^ b : Nat) : Int) - 1 = ((2 ^ b - 1 : Nat) : Int) by omega,
    bits_and_u64_nat _ _ (Nat.xor_lt_two_pow (n := 64) hh (by omega)) (by omega), Nat.and_two_pow_sub_one_eq_mod]
  rfl

theorem fnv_fold (h : Nat) (b : Int) (hh : h < 18446744073709551616) (hb : I64 b) (w : World) :
    Calls Try.prog 143 #[.int .u64 h, .int .i64 b] w fun e w' => e = .returned (.int .u64 (Fnv.folded h b)) ∧ w = w' := by
  by_cases h1 : b < 1
  · have HE : Hid (Fnv.folded h b = 0) := by show Fnv.folded h b = 0; unfold Fnv.folded; rw [if_neg (by omega)]
    go_enter Try.func143, Try.ntmps143
    go_wp2
    go_ret
    exact ⟨ret_int (by rw [HE.out]; rfl), rfl⟩
  · by_cases h2 : 32 < b
    · have HE : Hid (Fnv.folded h b = 0) := by show Fnv.folded h b = 0; unfold Fnv.folded; rw [if_neg (by omega)]
      go_enter Try.func143, Try.ntmps143
      go_wp2
      go_ret
      exact ⟨ret_int (by rw [HE.out]; rfl), rfl⟩
    · obtain ⟨n, rfl⟩ : ∃ n : Nat, b = n := ⟨b.toNat, by omega⟩
      have HE : Hid ((Fnv.fold h n : Nat) = Fnv.folded h n) := by show _ = Fnv.folded h n; unfold Fnv.folded; rw [if_pos (by omega)]; simp
      have HF := Lib.hid (Fnv.fold_int h n hh (by omega) (by omega))
      go_enter Try.func143, Try.ntmps143
      go_wp2
      go_ret
      exact ⟨ret_int (by rw [HF.out, ← HE.out]), rfl⟩

/-- The bits of two numbers that are not alike, one bit more. -/
theorem Fnv.xor_step (a b k : Nat) : (a ^^^ b) % 2 ^ (k + 1) = (a ^^^ b) % 2 ^ k + (if a / 2 ^ k % 2 = b / 2 ^ k % 2 then 0 else 2 ^ k) := by
  rw [Nat.mod_pow_succ, Nat.xor_div_two_pow]
  have h1 := @Nat.xor_mod_two_eq_one (a / 2 ^ k) (b / 2 ^ k)
  split
  · rw [show (a / 2 ^ k ^^^ b / 2 ^ k) % 2 = 0 by omega]; omega
  · rw [show (a / 2 ^ k ^^^ b / 2 ^ k) % 2 = 1 by omega]; omega
theorem Fnv.half (a k : Nat) : a / 2 ^ k / 2 = a / 2 ^ (k + 1) := by rw [Nat.pow_succ, Nat.div_div_eq_div_mul]
theorem Fnv.step_ref (h c : Nat) (hc : c < 256) : h - h % 256 + ((h % 256) ^^^ c) = h ^^^ c := by
  have h1 := Nat.div_add_mod (h ^^^ c) (2 ^ 8)
  rw [Nat.xor_div_two_pow, Nat.xor_mod_two_pow, Nat.div_eq_of_lt (a := c) (by omega), Nat.mod_eq_of_lt (a := c) (by omega), Nat.xor_zero] at h1
  have h2 := Nat.div_add_mod h 256
  have e : (2 : Nat) ^ 8 = 256 := rfl
  rw [e] at h1
  omega

theorem ref_unlike (a b : Nat) (ha : a < 256) (hb : b < 256) (w : World) :
    Calls Try.prog 194 #[.int .u64 a, .int .u64 b] w fun e w' => e = .returned (.int .u64 (a ^^^ b : Nat)) ∧ w = w' := by
  have HE : Hid ((a ^^^ b) % 2 ^ 8 = a ^^^ b) := Nat.mod_eq_of_lt (Nat.xor_lt_two_pow (n := 8) ha hb)
  go_enter Try.func194, Try.ntmps194
  go_wp2
  go_loop [0, 1, 5, 6, 7] (fun x y o t i => ∃ k : Nat, k ≤ 8 ∧ i = .int .i64 k ∧ x = .int .u64 (a / 2 ^ k : Nat) ∧ y = .int .u64 (b / 2 ^ k : Nat) ∧ o = .int .u64 ((a ^^^ b) % 2 ^ k : Nat) ∧ t = .int .u64 (2 ^ k : Nat)) (fun _ _ _ _ i => 8 - (intOf i).toNat)
  case atStart => exact ⟨0, by omega, rfl, by simp, by simp, by simp [Nat.mod_one], by simp⟩
  case round =>
    obtain ⟨k, hk, rfl, rfl, rfl, rfl, rfl⟩ := hrel
    by_cases hlt : k < 8
    · have hq : (2 : Nat) ^ k ≤ 2 ^ 7 := Nat.pow_le_pow_right (by omega) (by omega)
      have hx := Fnv.xor_step a b k
      have hm : (a ^^^ b) % 2 ^ k < 2 ^ k := Nat.mod_lt _ (Nat.two_pow_pos k)
      have H1 := Lib.hid (Fnv.half a k)
      have H2 := Lib.hid (Fnv.half b k)
      have H3 : Hid ((2 : Nat) ^ (k + 1) = 2 ^ k * 2) := Nat.pow_succ 2 k
      have l1 : a / 2 ^ k ≤ a := Nat.div_le_self _ _
      have l2 : b / 2 ^ k ≤ b := Nat.div_le_self _ _
      obtain ⟨x, ex⟩ : ∃ x, x = a / 2 ^ k := ⟨_, rfl⟩
      obtain ⟨y, ey⟩ : ∃ x, x = b / 2 ^ k := ⟨_, rfl⟩
      obtain ⟨o, eo⟩ : ∃ x, x = (a ^^^ b) % 2 ^ k := ⟨_, rfl⟩
      obtain ⟨t, et⟩ : ∃ x, x = 2 ^ k := ⟨_, rfl⟩
      rw [← ex, ← ey, ← eo, ← et] at hx
      rw [← ex] at l1
      rw [← ey] at l2
      rw [← eo, ← et] at hm
      rw [← et] at hq
      rw [← ex, ← ey, ← eo, ← et]
      rw [← ex] at H1
      rw [← ey] at H2
      rw [← et] at H3
      clear ex ey eo et
      have hx1 : x < 256 := by omega
      have hy1 : y < 256 := by omega
      have ht1 : t ≤ 128 := by omega
      clear l1 l2 hq
      by_cases hc : x % 2 = y % 2
      · rw [if_pos hc] at hx
        have HX := Lib.hid hx
        clear hx
        have hci : (x : Int) % 2 = (y : Int) % 2 := by omega
        go_wp2
        go_round
        case rel => exact ⟨k + 1, by omega, by go_num, int_eq (by have := H1.out; omega), int_eq (by have := H2.out; omega), int_eq (by rw [HX.out]; rfl), int_eq (by rw [H3.out]; omega)⟩
        case measure => simp [intOf]; omega
      · rw [if_neg hc] at hx
        have HX := Lib.hid hx
        clear hx
        have hci : ¬ (x : Int) % 2 = (y : Int) % 2 := by omega
        go_wp2
        go_round
        case rel => exact ⟨k + 1, by omega, by go_num, int_eq (by have := H1.out; omega), int_eq (by have := H2.out; omega), int_eq (by rw [HX.out]; omega), int_eq (by rw [H3.out]; omega)⟩
        case measure => simp [intOf]; omega
    · obtain rfl : k = 8 := by omega
      go_wp2
      go_ret
      exact ⟨ret_int (congrArg Nat.cast HE.out), rfl⟩

theorem ref_step (h c : Nat) (hh : h < 18446744073709551616) (hc : c < 256) (w : World) :
    Calls Try.prog 178 #[.int .u64 h, .int .u8 c] w fun e w' => e = .returned (.int .u64 (Fnv.step h c)) ∧ w = w' := by
  have hu : ∀ w, Calls Try.prog 194 #[.int .u64 ((h : Int) % 256), .int .u64 c] w fun e w' => e = .returned (.int .u64 ((h % 256) ^^^ c : Nat)) ∧ w = w' := by
    rw [show (h : Int) % 256 = ((h % 256 : Nat) : Int) by omega]; exact ref_unlike (h % 256) c (by omega) hc
  have hs := Fnv.step_ref h c hc
  have hl : (h % 256) ^^^ c < 2 ^ 8 := Nat.xor_lt_two_pow (by omega) (by omega)
  obtain ⟨u, eu⟩ : ∃ u, u = (h % 256) ^^^ c := ⟨_, rfl⟩
  rw [← eu] at hu hs hl
  have HE : Hid (Fnv.step h c = (h - h % 256 + u) * 1099511628211 % 18446744073709551616) := by
    show Fnv.step h c = _; unfold Fnv.step; rw [hs]
  have HU := Lib.hid hu
  clear hu hs eu
  go_enter Try.func178, Try.ntmps178
  go_wp2_with (with_reducible refine (HU.out _).mono ?_; rintro e w1 ⟨rfl, rfl⟩)
  go_ret
  exact ⟨ret_int (by rw [HE.out]; simp only [IntKind.wrap_u64]; omega), rfl⟩

theorem Fnv.ref32 (x u c : Nat) (hx : x < 4294967296) (hc : c < 256) (hu : u = (x % 256) ^^^ c) : (x - x % 256 + u) < 4294967296 ∧ (x - x % 256 + u) * 16777619 % 4294967296 = Fnv.step32 x c := by
  have h := Fnv.step_ref x c hc
  rw [← hu] at h
  have hl : x ^^^ c < 2 ^ 32 := Nat.xor_lt_two_pow hx (by omega)
  unfold Fnv.step32
  rw [← h]
  omega

theorem Fnv.fold_words (h b : Nat) : (h % 2 ^ b) ^^^ (h / 2 ^ b % 2 ^ b) = Fnv.fold h b := by
  unfold Fnv.fold
  rw [Nat.xor_mod_two_pow]

theorem ref_fold (h : Nat) (b : Int) (hh : h < 18446744073709551616) (hb : I64 b) (w : World) :
    Calls Try.prog 145 #[.int .u64 h, .int .i64 b] w fun e w' => e = .returned (.int .u64 (Fnv.folded h b)) ∧ w = w' := by
  by_cases h1 : b < 1
  · have HE : Hid (Fnv.folded h b = 0) := by show Fnv.folded h b = 0; unfold Fnv.folded; rw [if_neg (by omega)]
    go_enter Try.func145, Try.ntmps145
    go_wp2
    go_ret
    exact ⟨ret_int (by rw [HE.out]; rfl), rfl⟩
  · by_cases h2 : 32 < b
    · have HE : Hid (Fnv.folded h b = 0) := by show Fnv.folded h b = 0; unfold Fnv.folded; rw [if_neg (by omega)]
      go_enter Try.func145, Try.ntmps145
      go_wp2
      go_ret
      exact ⟨ret_int (by rw [HE.out]; rfl), rfl⟩
    · obtain ⟨n, rfl⟩ : ∃ n : Nat, b = n := ⟨b.toNat, by omega⟩
      have HE : Hid (Fnv.folded h n = (h % 2 ^ n ^^^ h / 2 ^ n % 2 ^ n) % 2 ^ n) := by
        show Fnv.folded h n = _
        unfold Fnv.folded
        rw [if_pos (by omega), Int.toNat_natCast, Fnv.fold_words]
        unfold Fnv.fold
        rw [Nat.mod_mod]
      have h1' : 1 ≤ n := by omega
      have h2' : n ≤ 32 := by omega
      clear h1 h2
      go_enter Try.func145, Try.ntmps145
      go_wp2
      go_loop [5, 6] (fun d i => ∃ k : Nat, k ≤ n ∧ i = .int .i64 k ∧ d = .int .u64 (2 ^ k : Nat)) (fun _ i => n - (intOf i).toNat)
      case atStart => exact ⟨0, by omega, rfl, rfl⟩
      case round =>
        obtain ⟨k, hk, rfl, rfl⟩ := hrel
        have hq : (2 : Nat) ^ k ≤ 2 ^ 32 := Nat.pow_le_pow_right (by omega) (by omega)
        have hp : (2 : Nat) ^ k > 0 := Nat.two_pow_pos k
        have H3 : Hid ((2 : Nat) ^ (k + 1) = 2 ^ k * 2) := Nat.pow_succ 2 k
        by_cases hlt : k < n
        · obtain ⟨t, et⟩ : ∃ x, x = 2 ^ k := ⟨_, rfl⟩
          rw [← et] at hq hp H3 ⊢
          clear et
          go_wp2
          go_round
          case rel => exact ⟨k + 1, by omega, by go_num, int_eq (by rw [H3.out]; omega)⟩
          case measure => simp [intOf]; omega
        · obtain rfl : k = n := by omega
          obtain ⟨t, et⟩ : ∃ x, x = 2 ^ k := ⟨_, rfl⟩
          rw [← et] at hq hp ⊢
          have ET := Lib.hid et
          obtain ⟨A, hA⟩ : ∃ A, A = h % t := ⟨_, rfl⟩
          obtain ⟨B, hB⟩ : ∃ B, B = h / t % t := ⟨_, rfl⟩
          have lA : A < t := by rw [hA]; exact Nat.mod_lt _ hp
          have lB : B < t := by rw [hB]; exact Nat.mod_lt _ hp
          have HE2 : Hid ((A ^^^ B) % 2 ^ k = Fnv.folded h k) := by show (A ^^^ B) % 2 ^ k = _; rw [HE.out, hA, hB, et]
          have HA : Hid ((h : Int) % t = (A / 2 ^ 0 : Nat)) := by show (h : Int) % t = (A / 2 ^ 0 : Nat); rw [hA]; simp
          have HB : Hid ((h : Int) / t % t = (B / 2 ^ 0 : Nat)) := by show (h : Int) / t % t = (B / 2 ^ 0 : Nat); rw [hB]; simp
          have q0 : 0 ≤ (h : Int) / t := Int.ediv_nonneg (by omega) (by omega)
          have q1 : (h : Int) / t < 18446744073709551616 := by
            have : h / t ≤ h := Nat.div_le_self _ _
            have e : ((h / t : Nat) : Int) = (h : Int) / t := Int.natCast_ediv _ _
            omega
          clear et hA hB HE H3
          go_wp2
          clear q0 q1
          go_loop [7, 8, 9, 10, 11] (fun x y o s i => ∃ j : Nat, j ≤ k ∧ i = .int .i64 j ∧ x = .int .u64 (A / 2 ^ j : Nat) ∧ y = .int .u64 (B / 2 ^ j : Nat) ∧ o = .int .u64 ((A ^^^ B) % 2 ^ j : Nat) ∧ s = .int .u64 (2 ^ j : Nat)) (fun _ _ _ _ i => k - (intOf i).toNat)
          case atStart => exact ⟨0, by omega, rfl, int_eq HA.out, int_eq HB.out, int_eq (by simp [Nat.mod_one]), rfl⟩
          case round =>
            clear HA HB
            obtain ⟨j, hj, rfl, rfl, rfl, rfl, rfl⟩ := hrel
            by_cases hlt : j < k
            · have hq2 : (2 : Nat) ^ j ≤ 2 ^ 31 := Nat.pow_le_pow_right (by omega) (by omega)
              have hx := Fnv.xor_step A B j
              have hm : (A ^^^ B) % 2 ^ j < 2 ^ j := Nat.mod_lt _ (Nat.two_pow_pos j)
              have H1 := Lib.hid (Fnv.half A j)
              have H2 := Lib.hid (Fnv.half B j)
              have H3 : Hid ((2 : Nat) ^ (j + 1) = 2 ^ j * 2) := Nat.pow_succ 2 j
              have l1 : A / 2 ^ j ≤ A := Nat.div_le_self _ _
              have l2 : B / 2 ^ j ≤ B := Nat.div_le_self _ _
              obtain ⟨x, ex⟩ : ∃ x, x = A / 2 ^ j := ⟨_, rfl⟩
              obtain ⟨y, ey⟩ : ∃ x, x = B / 2 ^ j := ⟨_, rfl⟩
              obtain ⟨o, eo⟩ : ∃ x, x = (A ^^^ B) % 2 ^ j := ⟨_, rfl⟩
              obtain ⟨t2, et⟩ : ∃ x, x = 2 ^ j := ⟨_, rfl⟩
              rw [← ex, ← ey, ← eo, ← et] at hx
              rw [← ex] at l1
              rw [← ey] at l2
              rw [← eo, ← et] at hm
              rw [← et] at hq2
              rw [← ex, ← ey, ← eo, ← et]
              rw [← ex] at H1
              rw [← ey] at H2
              rw [← et] at H3
              clear ex ey eo et
              have hx1 : x < 4294967296 := by omega
              have hy1 : y < 4294967296 := by omega
              have ht1 : t2 ≤ 2147483648 := by omega
              clear l1 l2 hq2 lA lB
              by_cases hc : x % 2 = y % 2
              · rw [if_pos hc] at hx
                have HX := Lib.hid hx
                clear hx
                have hci : (x : Int) % 2 = (y : Int) % 2 := by omega
                go_wp2
                go_round
                case rel => exact ⟨j + 1, by omega, by go_num, int_eq (by have := H1.out; omega), int_eq (by have := H2.out; omega), int_eq (by rw [HX.out]; rfl), int_eq (by rw [H3.out]; omega)⟩
                case measure => simp [intOf]; omega
              · rw [if_neg hc] at hx
                have HX := Lib.hid hx
                clear hx
                have hci : ¬ (x : Int) % 2 = (y : Int) % 2 := by omega
                go_wp2
                go_round
                case rel => exact ⟨j + 1, by omega, by go_num, int_eq (by have := H1.out; omega), int_eq (by have := H2.out; omega), int_eq (by rw [HX.out]; omega), int_eq (by rw [H3.out]; omega)⟩
                case measure => simp [intOf]; omega
            · obtain rfl : j = k := by omega
              go_wp2
              go_ret
              exact ⟨ret_int (congrArg Nat.cast HE2.out), rfl⟩

/-- A key's bytes, the highest ones first. -/
def Fnv.word (x : Nat) : List Nat := (List.range 8).map fun i => x / 2 ^ (56 - 8 * i) % 256
def Fnv.bytes (hi lo : Nat) : List Nat := Fnv.word hi ++ Fnv.word lo
def Fnv.key (hi lo : Nat) : Nat := Fnv.sum (Fnv.bytes hi lo)
theorem Fnv.word_len (x : Nat) : (Fnv.word x).length = 8 := by simp [Fnv.word]
theorem Fnv.word_at (x k : Nat) (h : k < 8) : (Fnv.word x)[k]?.getD 0 = x / 2 ^ (56 - 8 * k) % 256 := by simp [Fnv.word, h]
theorem Fnv.key_hi (hi lo k : Nat) (h : k < 8) : Fnv.sum ((Fnv.bytes hi lo).take (k + 1)) = Fnv.step (Fnv.sum ((Fnv.bytes hi lo).take k)) (hi / 2 ^ (56 - 8 * k) % 256) := by
  rw [Fnv.sum_step _ _ (by simp [Fnv.bytes, Fnv.word_len]; omega)]
  unfold Fnv.bytes
  rw [List.getElem?_append_left (by rw [Fnv.word_len]; exact h), Fnv.word_at _ _ h]
theorem Fnv.key_lo (hi lo k : Nat) (h : k < 8) : Fnv.sum ((Fnv.bytes hi lo).take (8 + k + 1)) = Fnv.step (Fnv.sum ((Fnv.bytes hi lo).take (8 + k))) (lo / 2 ^ (56 - 8 * k) % 256) := by
  rw [Fnv.sum_step _ _ (by simp [Fnv.bytes, Fnv.word_len]; omega)]
  unfold Fnv.bytes
  rw [List.getElem?_append_right (by rw [Fnv.word_len]; omega), Fnv.word_len, show 8 + k - 8 = k by omega, Fnv.word_at _ _ h]
theorem Fnv.key_all (hi lo : Nat) : Fnv.sum ((Fnv.bytes hi lo).take 16) = Fnv.key hi lo := by
  unfold Fnv.key
  rw [List.take_of_length_le (by simp [Fnv.bytes, Fnv.word_len])]
theorem Fnv.down (k : Nat) (h : k < 7) : 2 ^ (56 - 8 * k) / 256 = 2 ^ (56 - 8 * (k + 1)) := by
  rw [show 56 - 8 * k = 56 - 8 * (k + 1) + 8 by omega, Nat.pow_add]
  omega

set_option maxRecDepth 100000 in
theorem ref_key (hi lo : Nat) (h1 : hi < 18446744073709551616) (h2 : lo < 18446744073709551616) (w : World) :
    Calls Try.prog 146 #[.agg #[.int .u64 hi, .int .u64 lo]] w fun e w' => e = .returned (.int .u64 (Fnv.key hi lo)) ∧ Below w.heap.size w w' := by
  have HK := Lib.hid (Fnv.key_all hi lo)
  have HH := Lib.hid (Fnv.key_hi hi lo)
  have HL := Lib.hid (Fnv.key_lo hi lo)
  have hr := ref_step
  have HR := Lib.hid hr
  have HT := Lib.hid (fun k => Fnv.sum_lt ((Fnv.bytes hi lo).take k))
  have HD := Lib.hid Fnv.down
  clear hr
  go_enter Try.func146, Try.ntmps146
  go_wp2
  go_loop [3, 4, 5] (fun h d i => ∃ k : Nat, k ≤ 8 ∧ i = .int .i64 k ∧ h = .int .u64 (Fnv.sum ((Fnv.bytes hi lo).take k)) ∧ ∃ d', d = .int .u64 d' ∧ (k < 8 → d' = (2 ^ (56 - 8 * k) : Nat))) (fun _ _ i => 8 - (intOf i).toNat)
  case atStart => exact ⟨0, by omega, rfl, rfl, _, rfl, fun _ => by simp⟩
  case round =>
    obtain ⟨k, hk, rfl, rfl, d, rfl, hd⟩ := hrel
    by_cases hlt : k < 8
    · have hd' := hd hlt
      subst hd'
      have hp : 0 < (2 : Nat) ^ (56 - 8 * k) := Nat.two_pow_pos _
      have hp2 : (2 : Nat) ^ (56 - 8 * k) ≤ 72057594037927936 := Nat.pow_le_pow_right (n := 2) (i := 56 - 8 * k) (j := 56) (by omega) (by omega)
      have hdn := HD.out k
      obtain ⟨p, ep⟩ : ∃ p, p = 2 ^ (56 - 8 * k) := ⟨_, rfl⟩
      have hh := HH.out k hlt
      have hs := HR.out (Fnv.sum ((Fnv.bytes hi lo).take k)) (hi / 2 ^ (56 - 8 * k) % 256) (HT.out k) (by omega)
      rw [← hh] at hs
      rw [← ep] at hs hp hp2 hdn ⊢
      obtain ⟨q, eq⟩ : ∃ q, q = hi / p := ⟨_, rfl⟩
      rw [← eq] at hs
      have lq : q < 18446744073709551616 := by
        have : hi / p ≤ hi := Nat.div_le_self _ _
        omega
      have eqi : (hi : Int) / p = (q : Int) := by rw [eq]; exact (Int.natCast_ediv _ _).symm
      obtain ⟨c, ec⟩ : ∃ c, c = q % 256 := ⟨_, rfl⟩
      rw [← ec] at hs
      have lc : c < 256 := by omega
      have eci : (q : Int) % 256 = (c : Int) := by omega
      have HS := Lib.hid hs
      have HDN := Lib.hid hdn
      clear hs hdn hd hh ep ec eq
      go_wp2_with (with_reducible refine (HS.out _).mono ?_; rintro e w1 ⟨rfl, rfl⟩)
      go_round
      case rel => exact ⟨k + 1, by omega, by go_num, rfl, _, rfl, fun h => by rw [← HDN.out (by omega)]; simp⟩
      case measure => simp [intOf]; omega
    · clear hd
      obtain rfl : k = 8 := by omega
      go_wp2
      go_loop [3, 4, 6] (fun h d i => ∃ k : Nat, k ≤ 8 ∧ i = .int .i64 k ∧ h = .int .u64 (Fnv.sum ((Fnv.bytes hi lo).take (8 + k))) ∧ ∃ d', d = .int .u64 d' ∧ (k < 8 → d' = (2 ^ (56 - 8 * k) : Nat))) (fun _ _ i => 8 - (intOf i).toNat)
      case atStart => exact ⟨0, by omega, rfl, rfl, _, rfl, fun _ => by simp⟩
      case round =>
        obtain ⟨k, hk, rfl, rfl, d, rfl, hd⟩ := hrel
        by_cases hlt : k < 8
        · have hd' := hd hlt
          subst hd'
          have hp : 0 < (2 : Nat) ^ (56 - 8 * k) := Nat.two_pow_pos _
          have hp2 : (2 : Nat) ^ (56 - 8 * k) ≤ 72057594037927936 := Nat.pow_le_pow_right (n := 2) (i := 56 - 8 * k) (j := 56) (by omega) (by omega)
          have hdn := HD.out k
          obtain ⟨p, ep⟩ : ∃ p, p = 2 ^ (56 - 8 * k) := ⟨_, rfl⟩
          have hh := HL.out k hlt
          have hs := HR.out (Fnv.sum ((Fnv.bytes hi lo).take (8 + k))) (lo / 2 ^ (56 - 8 * k) % 256) (HT.out (8 + k)) (by omega)
          rw [← hh] at hs
          rw [← ep] at hs hp hp2 hdn ⊢
          obtain ⟨q, eq⟩ : ∃ q, q = lo / p := ⟨_, rfl⟩
          rw [← eq] at hs
          have lq : q < 18446744073709551616 := by
            have : lo / p ≤ lo := Nat.div_le_self _ _
            omega
          have eqi : (lo : Int) / p = (q : Int) := by rw [eq]; exact (Int.natCast_ediv _ _).symm
          obtain ⟨c, ec⟩ : ∃ c, c = q % 256 := ⟨_, rfl⟩
          rw [← ec] at hs
          have lc : c < 256 := by omega
          have eci : (q : Int) % 256 = (c : Int) := by omega
          have HS := Lib.hid hs
          have HDN := Lib.hid hdn
          clear hs hdn hd hh ep ec eq
          go_wp2_with (with_reducible refine (HS.out _).mono ?_; rintro e w1 ⟨rfl, rfl⟩)
          go_round
          case rel => exact ⟨k + 1, by omega, by go_num, rfl, _, rfl, fun h => by rw [← HDN.out (by omega)]; simp⟩
          case measure => simp [intOf]; omega
        · clear hd
          obtain rfl : k = 8 := by omega
          go_wp2
          go_ret
          exact ⟨ret_int (congrArg Nat.cast HK.out), (Below.refl _ _).alloc (Nat.le_refl _) _⟩

/-- The sixteen bytes that the program has laid behind k rounds. -/
def Fnv.laid (hi lo k : Nat) : Array Value := ((List.range 16).map fun i => Value.int .u8 (if i < 8 then (if i < k then hi / 2 ^ (56 - 8 * i) % 256 else 0) else (if i - 8 < k then lo / 2 ^ (56 - 8 * (i - 8)) % 256 else 0) : Nat)).toArray
theorem Fnv.laid_size (hi lo k : Nat) : (Fnv.laid hi lo k).size = 16 := by simp [Fnv.laid]
theorem Fnv.laid_get (hi lo k i : Nat) (h : i < 16) : (Fnv.laid hi lo k)[i]? = some (Value.int .u8 (if i < 8 then (if i < k then hi / 2 ^ (56 - 8 * i) % 256 else 0) else (if i - 8 < k then lo / 2 ^ (56 - 8 * (i - 8)) % 256 else 0) : Nat)) := by
  simp [Fnv.laid, h]
theorem Fnv.laid_step (hi lo k : Nat) (h : k < 8) : ((Fnv.laid hi lo k).setIfInBounds k (.int .u8 (hi / 2 ^ (56 - 8 * k) % 256 : Nat))).setIfInBounds (8 + k) (.int .u8 (lo / 2 ^ (56 - 8 * k) % 256 : Nat)) = Fnv.laid hi lo (k + 1) := by
  apply Array.ext_getElem?
  intro i
  by_cases hi16 : i < 16
  · rw [Fnv.laid_get _ _ _ _ hi16, Array.getElem?_setIfInBounds, Array.getElem?_setIfInBounds, Fnv.laid_get _ _ _ _ hi16]
    simp only [Array.size_setIfInBounds, Fnv.laid_size]
    by_cases e1 : 8 + k = i
    · subst e1
      simp [show ¬ 8 + k < 8 by omega, show 8 + k < 16 by omega]
    · by_cases e2 : k = i
      · subst e2
        simp [show k < 8 by omega, show k < 16 by omega]
      · rw [if_neg e1, if_neg e2]
        congr 2
        by_cases h8 : i < 8
        · simp only [h8, if_true]
          by_cases hk : i < k
          · simp [hk, show i < k + 1 by omega]
          · simp [hk, show ¬ i < k + 1 by omega]
        · simp only [h8, if_false]
          by_cases hk : i - 8 < k
          · simp [hk, show i - 8 < k + 1 by omega]
          · simp [hk, show ¬ i - 8 < k + 1 by omega]
  · rw [Array.getElem?_eq_none (by simp [Fnv.laid_size]; omega), Array.getElem?_eq_none (by simp [Fnv.laid_size]; omega)]

theorem Fnv.laid_zero (hi lo : Nat) : Fnv.laid hi lo 0 = #[.int .u8 0, .int .u8 0, .int .u8 0, .int .u8 0, .int .u8 0, .int .u8 0, .int .u8 0, .int .u8 0, .int .u8 0, .int .u8 0, .int .u8 0, .int .u8 0, .int .u8 0, .int .u8 0, .int .u8 0, .int .u8 0] := by
  simp [Fnv.laid, List.range_succ]
/-- The text of a key's bytes. -/
def Fnv.text (hi lo : Nat) : List UInt8 := (Fnv.bytes hi lo).map UInt8.ofNat

theorem Fnv.text_len (hi lo : Nat) : (Fnv.text hi lo).length = 16 := by simp [Fnv.text, Fnv.bytes, Fnv.word_len]
theorem Fnv.text_at (hi lo j : Nat) (h : j < (Fnv.text hi lo).length) : (Fnv.laid hi lo 8)[j]? = some (.int .u8 ((Fnv.text hi lo)[j].toNat : Int)) := by
  have h16 : j < 16 := by rw [Fnv.text_len] at h; exact h
  rw [Fnv.laid_get _ _ _ _ h16]
  simp only [Fnv.text, Fnv.bytes, List.getElem_map]
  by_cases h8 : j < 8
  · rw [List.getElem_append_left (by rw [Fnv.word_len]; exact h8)]
    simp [h8, Fnv.word]
  · rw [List.getElem_append_right (by rw [Fnv.word_len]; omega)]
    simp [h8, Fnv.word, show j - 8 < 8 by omega]
theorem Fnv.text_bytes (hi lo : Nat) : Str.bytes ⟨(Fnv.text hi lo).toArray⟩ = Fnv.bytes hi lo := by
  unfold Str.bytes Fnv.text
  simp only [List.map_map]
  conv => rhs; rw [← List.map_id (Fnv.bytes hi lo)]
  apply List.map_congr_left
  intro n hn
  have : n < 256 := by
    simp only [Fnv.bytes, Fnv.word, List.mem_append, List.mem_map] at hn
    obtain ⟨i, _, rfl⟩ | ⟨i, _, rfl⟩ := hn <;> omega
  simp
  omega

set_option maxRecDepth 100000 in
theorem fnv_key (hi lo : Nat) (h1 : hi < 18446744073709551616) (h2 : lo < 18446744073709551616) (w : World) :
    Calls Try.prog 144 #[.agg #[.int .u64 hi, .int .u64 lo]] w fun e w' => e = .returned (.int .u64 (Fnv.key hi lo)) ∧ Below w.heap.size w w' := by
  have HF : Hid (∀ w, Calls Try.prog 177 #[.string ⟨(Fnv.text hi lo).toArray⟩] w fun e w' => e = .returned (.int .u64 (Fnv.key hi lo)) ∧ w = w') := by
    show ∀ w, Calls Try.prog 177 #[.string ⟨(Fnv.text hi lo).toArray⟩] w fun e w' => e = .returned (.int .u64 (Fnv.key hi lo)) ∧ w = w'
    unfold Fnv.key
    rw [← Fnv.text_bytes]
    exact fnv_sum64 _ (by show (Fnv.text hi lo).toArray.size ≤ _; rw [List.size_toArray, Fnv.text_len]; omega)
  go_enter Try.func144, Try.ntmps144
  go_wp2
  go_loopw [6] (fun i wr => ∃ k : Nat, k ≤ 8 ∧ i = .int .i64 k ∧ wr = (w.alloc (.cells #[.int .u64 hi, .int .u64 lo] 159)).alloc (.cells (Fnv.laid hi lo k) 240)) (fun i _ => 8 - (intOf i).toNat)
  case atStart => exact ⟨0, by omega, rfl, by rw [Fnv.laid_zero]⟩
  case round =>
    obtain ⟨k, hk, rfl, rfl⟩ := hrel
    by_cases hlt : k < 8
    · have HS := Lib.hid (Fnv.laid_step hi lo k hlt)
      obtain ⟨n, en⟩ : ∃ n, n = 56 - 8 * k := ⟨_, rfl⟩
      have eni : 56 - 8 * (k : Int) = (n : Int) := by omega
      have ln : n < 64 := by omega
      obtain ⟨x1, g1⟩ : ∃ x, (Fnv.laid hi lo k)[k]? = some x := ⟨_, Fnv.laid_get _ _ _ _ (by omega)⟩
      obtain ⟨x2, g2⟩ : ∃ x, (Fnv.laid hi lo k)[8 + k]? = some x := ⟨_, Fnv.laid_get _ _ _ _ (by omega)⟩
      rw [← en] at HS
      obtain ⟨a, ea⟩ : ∃ q, q = hi / 2 ^ n := ⟨_, rfl⟩
      obtain ⟨b, eb⟩ : ∃ q, q = lo / 2 ^ n := ⟨_, rfl⟩
      have eai : (hi : Int) / 2 ^ n = (a : Int) := by rw [ea]; simp
      have ebi : (lo : Int) / 2 ^ n = (b : Int) := by rw [eb]; simp
      have la : a < 18446744073709551616 := by
        have : hi / 2 ^ n ≤ hi := Nat.div_le_self _ _
        omega
      have lb : b < 18446744073709551616 := by
        have : lo / 2 ^ n ≤ lo := Nat.div_le_self _ _
        omega
      rw [← ea, ← eb] at HS
      obtain ⟨c, ec⟩ : ∃ c, c = a % 256 := ⟨_, rfl⟩
      obtain ⟨d, ed⟩ : ∃ c, c = b % 256 := ⟨_, rfl⟩
      rw [← ec, ← ed] at HS
      have eci : (a : Int) % 256 = (c : Int) := by omega
      have edi : (b : Int) % 256 = (d : Int) := by omega
      clear ea eb ec ed en
      go_wp2
      go_roundw
      case rel => exact ⟨k + 1, by omega, by go_num, by rw [HS.out]⟩
      case measure => simp [intOf]; omega
    · obtain rfl : k = 8 := by omega
      have hcv := run_convert_bytes_back (P := Try.prog) ((w.alloc (.cells #[.int .u64 hi, .int .u64 lo] 159)).alloc (.cells (Fnv.laid hi lo 8) 240)) 62 9 5 ⟨w.heap.size + 1, 0, none⟩ 16 (Fnv.text hi lo) Try.underlying62 Try.underlying5 Try.underlying9 (fun j hj => by
        rw [show (⟨w.heap.size + 1, 0, none⟩ : Addr).add j = ⟨w.heap.size + 1, j, none⟩ by simp [Addr.add]; exact fun h => h.symm, World.cell?_alloc_at _ _ _ _ (by simp)]
        exact Fnv.text_at _ _ _ hj)
      rw [Fnv.text_len] at hcv
      go_wp2_with (with_reducible refine (HF.out _).mono ?_; rintro e w1 ⟨rfl, rfl⟩)
      go_ret
      exact ⟨rfl, ((Below.refl _ _).alloc (Nat.le_refl _) _).alloc (by simp) _⟩
end Go.Proofs.Ytapgcbjlgekpeaa
