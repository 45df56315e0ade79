/- Contracts of layer 2's reference: numbers of 128 bits, bit by bit. -/
import Derived.Test.YthlcjigpccmbmaaNum
namespace Go.Proofs.Ythlcjigpccmbmaa
open Go.ChangeShapes Go.WideShapes Go.ChangeAt Go.RowKit

theorem Bits.bit_eq (lo k : Nat) : ((lo : Int) / 2 ^ k % 2 == 1) = lo.testBit k := by
  rw [Nat.testBit_eq_decide_div_mod_eq]
  have e : ((lo / 2 ^ k % 2 : Nat) : Int) = (lo : Int) / 2 ^ k % 2 := by simp
  rw [← e]
  rw [Bool.eq_iff_iff]
  simp
  omega

/-- The bits that the reference has laid behind k rounds. -/
def Bits.laid (hi lo k : Nat) : Array Value := Bits.row 128 (fun i => if i < 64 then decide (i < k) && lo.testBit i else decide (i - 64 < k) && hi.testBit (i - 64))

theorem Bits.laid_zero (hi lo : Nat) : Bits.laid hi lo 0 = Bits.num 0 := by
  unfold Bits.laid Bits.num
  apply Bits.row_ext
  intro i _
  simp
theorem Bits.laid_step (hi lo k : Nat) (h : k < 64) : ((Bits.laid hi lo k).setIfInBounds k (.bool (lo.testBit k))).setIfInBounds (64 + k) (.bool (hi.testBit k)) = Bits.laid hi lo (k + 1) := by
  unfold Bits.laid
  rw [Bits.row_set, Bits.row_set]
  apply Bits.row_ext
  intro i hi
  by_cases h1 : i = 64 + k
  · subst h1
    rw [if_pos rfl, if_neg (by omega)]
    simp
  · by_cases h2 : i = k
    · subst h2
      simp [h, h1]
    · simp only [h1, h2, if_false]
      have e1 : decide (i < k + 1) = decide (i < k) := by rw [Bool.eq_iff_iff]; simp; omega
      have e2 : ¬ i < 64 → decide (i - 64 < k + 1) = decide (i - 64 < k) := by intro _; rw [Bool.eq_iff_iff]; simp; omega
      by_cases h3 : i < 64
      · simp [h3, e1]
      · simp [h3, e2 h3]
theorem Bits.laid_end (hi lo : Nat) (h : lo < 2 ^ 64) : Bits.laid hi lo 64 = Bits.num (hi * 2 ^ 64 + lo) := by
  unfold Bits.laid Bits.num
  apply Bits.row_ext
  intro i hi
  rw [Bits.testBit_words _ _ h]
  by_cases h3 : i < 64
  · simp [h3]
  · simp [h3, show i - 64 < 64 by omega]

theorem ref_of (hi lo : Nat) (h1 : hi < 18446744073709551616) (h2 : lo < 18446744073709551616) (w : World) :
    Calls Try.prog 40 #[.int .u64 hi, .int .u64 lo] w fun e w' => e = .returned (.agg (Bits.num (hi * 2 ^ 64 + lo))) ∧ Below w.heap.size w w' := by
  have HE := Lib.hid (Bits.laid_end hi lo h2)
  have HZ := Lib.hid (Bits.laid_zero hi lo)
  go_enter Try.func40, Try.ntmps40
  go_wp2_with (with_reducible refine wpList_alloc_as rfl _ rfl _ (numZero _) ?_)
  go_loopw [6] (fun i wr => ∃ k : Nat, k ≤ 64 ∧ i = .int .i64 k ∧ wr = (w.alloc (.cells (Bits.num 0) 41)).alloc (.cells (Bits.laid hi lo k) 41)) (fun i _ => 64 - (intOf i).toNat)
  case atStart => exact ⟨0, by omega, rfl, by rw [HZ.out]⟩
  case round =>
    obtain ⟨k, hk, rfl, rfl⟩ := hrel
    by_cases hlt : k < 64
    · have HS := Lib.hid (Bits.laid_step hi lo k hlt)
      have b1 := Bits.bit_eq lo k
      have b2 := Bits.bit_eq hi k
      have n1 : 0 ≤ (lo : Int) / 2 ^ k := Int.ediv_nonneg (by omega) (Int.le_of_lt (Int.pow_pos (by omega)))
      have n2 : 0 ≤ (hi : Int) / 2 ^ k := Int.ediv_nonneg (by omega) (Int.le_of_lt (Int.pow_pos (by omega)))
      obtain ⟨x1, g1⟩ : ∃ x, (Bits.laid hi lo k)[k]? = some x := ⟨_, Bits.row_get _ _ _ (by omega)⟩
      obtain ⟨x2, g2⟩ : ∃ x, (Bits.laid hi lo k)[64 + k]? = some x := ⟨_, Bits.row_get _ _ _ (by omega)⟩
      go_wp2
      go_roundw
      case rel => exact ⟨k + 1, by omega, by go_num, by rw [HS.out]⟩
      case measure => simp [intOf]; omega
    · obtain rfl : k = 64 := by omega
      have e := HE.out
      rw [e]
      have hu := Try.underlying41
      go_wp2_with (first | (with_reducible refine wpList_load_rowAs rfl 41 _ rfl (w.heap.size + 1) rfl 41 (Bits.num (hi * 2 ^ 64 + lo)) (0, 0) _ 128 (by rw [heap_alloc_at]; simp) hu rfl numInfo (Bits.num_size _) ?_) | ((with_reducible refine wpList_store_rowAs rfl 41 _ _ rfl w.heap.size (Bits.num (hi * 2 ^ 64 + lo)) rfl rfl 41 (Bits.num 0) 128 (by simp only [heap_alloc_past, heap_alloc_at, World.size_alloc, Nat.lt_add_one]) numInfo (Bits.num_size _) (Bits.num_size _) (num_oneCell _) ?_); simp only [setRow_alloc_past, setRow_alloc_at, World.size_alloc, Nat.lt_add_one]))
      refine bodyPost_ret (v := .agg (Bits.num (hi * 2 ^ 64 + lo))) ?_ rfl ⟨rfl, (((Below.refl _ _).alloc (Nat.le_refl _) _).alloc (by simp) _)⟩
      exact results_cell_row rfl _ _ w.heap.size 41 (Bits.num (hi * 2 ^ 64 + lo)) (0, 0) _ rfl (by simp only [heap_alloc_past, heap_alloc_at, World.size_alloc, Nat.lt_add_one]) hu rfl (by rw [Bits.num_size]; exact numInfo)

theorem Bits.hi_step (x i : Nat) (hi : 64 ≤ i) (hx : x < 2 ^ 128) : x / 2 ^ i < 18446744073709551616 := by
  have : x / 2 ^ i ≤ x / 2 ^ 64 := Nat.div_le_div_left (Nat.pow_le_pow_right (by omega) hi) (Nat.two_pow_pos _)
  have h2 : x / 2 ^ 64 < 2 ^ 64 := Nat.div_lt_of_lt_mul (by omega)
  omega

theorem ref_hi (x : Nat) (hx : x < 2 ^ 128) (w : World) :
    Calls Try.prog 39 #[.agg (Bits.num x)] w fun e w' => e = .returned (.int .u64 (x / 2 ^ 64 : Nat)) ∧ Below w.heap.size w w' := by
  have HX := Lib.hid hx
  clear hx
  go_enter Try.func39, Try.ntmps39
  go_wp2
  go_loop [3, 4] (fun s i => ∃ k : Nat, k ≤ 64 ∧ i = .int .i64 (127 - k : Int) ∧ s = .int .u64 (x / 2 ^ (128 - k) : Nat)) (fun _ i => (intOf i - 63).toNat)
  case atStart => exact ⟨0, by omega, rfl, int_eq (by rw [Nat.div_eq_of_lt HX.out]; rfl)⟩
  case round =>
    obtain ⟨k, hk, rfl, rfl⟩ := hrel
    by_cases hlt : k < 64
    · have hs := Bits.div_step x (127 - k)
      rw [show 127 - k + 1 = 128 - k by omega] at hs
      have hb := Bits.hi_step x (127 - k) (by omega) HX.out
      have hg := Bits.num_get x (127 - k) (by omega)
      have he : (127 - (k : Int)).toNat = 127 - k := by omega
      obtain ⟨y, hy⟩ : ∃ y : Nat, y = x / 2 ^ (128 - k) := ⟨_, rfl⟩
      rw [← hy] at hs ⊢
      have HY : Hid (y = x / 2 ^ (128 - k)) := hy
      clear hy
      cases hbit : x.testBit (127 - k)
      all_goals
        rw [hbit] at hs hg
        simp only [Bool.toNat_false, Bool.toNat_true, Nat.add_zero] at hs
        have HS := Lib.hid hs
        have hy2 : y ≤ 9223372036854775807 := by omega
        clear hs hbit hb
        go_wp2
        go_round
        case rel => exact ⟨k + 1, by omega, int_eq (by omega), int_eq (by rw [show 128 - (k + 1) = 127 - k by omega, HS.out]; omega)⟩
        case measure => simp [intOf]; omega
    · obtain rfl : k = 64 := by omega
      go_wp2
      go_ret
      exact ⟨rfl, below1 _ _⟩

theorem ref_lo (x : Nat) (w : World) :
    Calls Try.prog 41 #[.agg (Bits.num x)] w fun e w' => e = .returned (.int .u64 (x % 2 ^ 64 : Nat)) ∧ Below w.heap.size w w' := by
  go_enter Try.func41, Try.ntmps41
  go_wp2
  go_loop [3, 4] (fun s i => ∃ k : Nat, k ≤ 64 ∧ i = .int .i64 (63 - k : Int) ∧ s = .int .u64 (x % 2 ^ 64 / 2 ^ (64 - k) : Nat)) (fun _ i => (intOf i + 1).toNat)
  case atStart => exact ⟨0, by omega, rfl, int_eq (by rw [Nat.div_eq_of_lt (Nat.mod_lt _ (by omega))]; rfl)⟩
  case round =>
    obtain ⟨k, hk, rfl, rfl⟩ := hrel
    by_cases hlt : k < 64
    · have hs := Bits.div_step (x % 2 ^ 64) (63 - k)
      rw [show 63 - k + 1 = 64 - k by omega, Nat.testBit_mod_two_pow] at hs
      have hle : x % 2 ^ 64 / 2 ^ (63 - k) ≤ x % 2 ^ 64 := Nat.div_le_self _ _
      have hml : x % 2 ^ 64 < 2 ^ 64 := Nat.mod_lt _ (by omega)
      have hg := Bits.num_get x (63 - k) (by omega)
      have he : (63 - (k : Int)).toNat = 63 - k := by omega
      rw [show decide (63 - k < 64) = true by simp; omega, Bool.true_and] at hs
      obtain ⟨y, hy⟩ : ∃ y : Nat, y = x % 2 ^ 64 / 2 ^ (64 - k) := ⟨_, rfl⟩
      rw [← hy] at hs ⊢
      have HY : Hid (y = x % 2 ^ 64 / 2 ^ (64 - k)) := hy
      clear hy
      cases hbit : x.testBit (63 - k)
      all_goals
        rw [hbit] at hs hg
        simp only [Bool.toNat_false, Bool.toNat_true, Nat.add_zero] at hs
        have HS := Lib.hid hs
        have hy2 : y ≤ 9223372036854775807 := by omega
        clear hs hbit hle hml
        go_wp2
        go_round
        case rel => exact ⟨k + 1, by omega, int_eq (by omega), int_eq (by rw [show 64 - (k + 1) = 63 - k by omega, HS.out]; omega)⟩
        case measure => simp [intOf]; omega
    · obtain rfl : k = 64 := by omega
      go_wp2
      go_ret
      exact ⟨ret_int (by simp), below1 _ _⟩

/-- The bits that the reference has laid of a doubled number. -/
def Bits.doubled (x k : Nat) : Array Value := Bits.row 128 (fun i => decide (i < k) && (2 * x).testBit i)
theorem Bits.doubled_one (x : Nat) : Bits.doubled x 1 = Bits.num 0 := by
  unfold Bits.doubled Bits.num
  apply Bits.row_ext
  intro i _
  by_cases h : i = 0
  · subst h
    simp [Nat.testBit_zero]
  · simp [show ¬ i < 1 by omega]
theorem Bits.doubled_step (x k : Nat) (h : 1 ≤ k) : (Bits.doubled x k).setIfInBounds k (.bool (x.testBit (k - 1))) = Bits.doubled x (k + 1) := by
  unfold Bits.doubled
  rw [Bits.row_set]
  apply Bits.row_ext
  intro i _
  by_cases h2 : i = k
  · subst h2
    have : (2 * x).testBit i = x.testBit (i - 1) := by
      obtain ⟨m, rfl⟩ : ∃ m, i = m + 1 := ⟨i - 1, by omega⟩
      rw [Nat.testBit_succ, Nat.mul_div_cancel_left _ (by omega)]
      rfl
    simp [this]
  · have e1 : decide (i < k + 1) = decide (i < k) := by rw [Bool.eq_iff_iff]; simp; omega
    simp [h2, e1]
theorem Bits.doubled_end (x : Nat) : Bits.doubled x 128 = Bits.num (2 * x) := by
  unfold Bits.doubled Bits.num
  apply Bits.row_ext
  intro i hi
  simp [hi]

set_option maxRecDepth 100000 in
theorem ref_double (x : Nat) (w : World) :
    Calls Try.prog 51 #[.agg (Bits.num x)] w fun e w' => e = .returned (.agg (Bits.num (2 * x))) ∧ Below w.heap.size w w' := by
  have HE := Lib.hid (Bits.doubled_end x)
  have HZ := Lib.hid (Bits.doubled_one x)
  go_enter Try.func51, Try.ntmps51
  go_wp2_with (first | ((with_reducible refine wpList_alloc_as rfl _ rfl _ (numZero _) ?_); (try simp only [World.size_alloc])))
  go_loopw [4] (fun i wr => ∃ k : Nat, 1 ≤ k ∧ k ≤ 128 ∧ i = .int .i64 k ∧ wr = ((w.alloc (.cells (Bits.num x) 41)).alloc (.cells (Bits.num 0) 41)).alloc (.cells (Bits.doubled x k) 41)) (fun i _ => 128 - (intOf i).toNat)
  case atStart => exact ⟨1, by omega, by omega, rfl, by rw [HZ.out]⟩
  case round =>
    obtain ⟨k, h1, hk, rfl, rfl⟩ := hrel
    by_cases hlt : k < 128
    · have HS := Lib.hid (Bits.doubled_step x k h1)
      have g1 := Bits.num_get x (k - 1) (by omega)
      obtain ⟨x2, g2⟩ : ∃ v, (Bits.doubled x k)[k]? = some v := ⟨_, Bits.row_get _ _ _ (by omega)⟩
      have he : ((k : Int) - 1).toNat = k - 1 := by omega
      go_wp2
      go_roundw
      case rel => exact ⟨k + 1, by omega, by omega, by go_num, by rw [HS.out]⟩
      case measure => simp [intOf]; omega
    · obtain rfl : k = 128 := by omega
      have e := HE.out
      rw [e]
      go_wp2_with (first | ((with_reducible refine wpList_load_rowAs rfl 41 _ rfl ((w.heap.size + 2)) ?_ 41 (Bits.num (2 * x)) (0, 0) _ 128 ?_ Try.underlying41 rfl numInfo (Bits.num_size _) ?_); exact rfl; exact (by first | (with_reducible exact heap_1_0 _ _) | (with_reducible exact heap_2_0 _ _ _) | (with_reducible exact heap_2_1 _ _ _) | (with_reducible exact heap_3_0 _ _ _ _) | (with_reducible exact heap_3_1 _ _ _ _) | (with_reducible exact heap_3_2 _ _ _ _) | (with_reducible exact heap_4_0 _ _ _ _ _) | (with_reducible exact heap_4_1 _ _ _ _ _) | (with_reducible exact heap_4_2 _ _ _ _ _) | (with_reducible exact heap_4_3 _ _ _ _ _) | (with_reducible exact heap_5_0 _ _ _ _ _ _) | (with_reducible exact heap_5_1 _ _ _ _ _ _) | (with_reducible exact heap_5_2 _ _ _ _ _ _) | (with_reducible exact heap_5_3 _ _ _ _ _ _) | (with_reducible exact heap_5_4 _ _ _ _ _ _) | (with_reducible exact heap_6_0 _ _ _ _ _ _ _) | (with_reducible exact heap_6_1 _ _ _ _ _ _ _) | (with_reducible exact heap_6_2 _ _ _ _ _ _ _) | (with_reducible exact heap_6_3 _ _ _ _ _ _ _) | (with_reducible exact heap_6_4 _ _ _ _ _ _ _) | (with_reducible exact heap_6_5 _ _ _ _ _ _ _) | simp only [heap_alloc_past, heap_alloc_at, World.size_alloc, Nat.add_assoc, Nat.reduceAdd, Nat.lt_add_right_iff_pos, Nat.add_lt_add_iff_left, Nat.reduceLT, Nat.zero_lt_succ, Nat.lt_add_one])) | ((with_reducible refine wpList_store_rowAs rfl 41 _ _ rfl ((w.heap.size + 1)) (Bits.num (2 * x)) ?_ ?_ 41 (Bits.num 0) 128 ?_ numInfo (Bits.num_size _) (Bits.num_size _) (num_oneCell _) ?_); exact rfl; exact rfl; exact (by first | (with_reducible exact heap_1_0 _ _) | (with_reducible exact heap_2_0 _ _ _) | (with_reducible exact heap_2_1 _ _ _) | (with_reducible exact heap_3_0 _ _ _ _) | (with_reducible exact heap_3_1 _ _ _ _) | (with_reducible exact heap_3_2 _ _ _ _) | (with_reducible exact heap_4_0 _ _ _ _ _) | (with_reducible exact heap_4_1 _ _ _ _ _) | (with_reducible exact heap_4_2 _ _ _ _ _) | (with_reducible exact heap_4_3 _ _ _ _ _) | (with_reducible exact heap_5_0 _ _ _ _ _ _) | (with_reducible exact heap_5_1 _ _ _ _ _ _) | (with_reducible exact heap_5_2 _ _ _ _ _ _) | (with_reducible exact heap_5_3 _ _ _ _ _ _) | (with_reducible exact heap_5_4 _ _ _ _ _ _) | (with_reducible exact heap_6_0 _ _ _ _ _ _ _) | (with_reducible exact heap_6_1 _ _ _ _ _ _ _) | (with_reducible exact heap_6_2 _ _ _ _ _ _ _) | (with_reducible exact heap_6_3 _ _ _ _ _ _ _) | (with_reducible exact heap_6_4 _ _ _ _ _ _ _) | (with_reducible exact heap_6_5 _ _ _ _ _ _ _) | simp only [heap_alloc_past, heap_alloc_at, World.size_alloc, Nat.add_assoc, Nat.reduceAdd, Nat.lt_add_right_iff_pos, Nat.add_lt_add_iff_left, Nat.reduceLT, Nat.zero_lt_succ, Nat.lt_add_one]); (first | rw [row_1_0] | rw [row_2_0] | rw [row_2_1] | rw [row_3_0] | rw [row_3_1] | rw [row_3_2] | rw [row_4_0] | rw [row_4_1] | rw [row_4_2] | rw [row_4_3] | rw [row_5_0] | rw [row_5_1] | rw [row_5_2] | rw [row_5_3] | rw [row_5_4] | rw [row_6_0] | rw [row_6_1] | rw [row_6_2] | rw [row_6_3] | rw [row_6_4] | rw [row_6_5] | simp only [setRow_alloc_past, setRow_alloc_at, World.size_alloc, Nat.add_assoc, Nat.reduceAdd, Nat.lt_add_right_iff_pos, Nat.add_lt_add_iff_left, Nat.reduceLT, Nat.zero_lt_succ, Nat.lt_add_one])))
      refine bodyPost_ret (v := .agg (Bits.num (2 * x))) ?_ rfl ⟨rfl, below3 _ _ _ _⟩
      exact results_cell_row rfl _ _ (w.heap.size + 1) 41 (Bits.num (2 * x)) (0, 0) _ rfl (by first | (with_reducible exact heap_1_0 _ _) | (with_reducible exact heap_2_0 _ _ _) | (with_reducible exact heap_2_1 _ _ _) | (with_reducible exact heap_3_0 _ _ _ _) | (with_reducible exact heap_3_1 _ _ _ _) | (with_reducible exact heap_3_2 _ _ _ _) | (with_reducible exact heap_4_0 _ _ _ _ _) | (with_reducible exact heap_4_1 _ _ _ _ _) | (with_reducible exact heap_4_2 _ _ _ _ _) | (with_reducible exact heap_4_3 _ _ _ _ _) | (with_reducible exact heap_5_0 _ _ _ _ _ _) | (with_reducible exact heap_5_1 _ _ _ _ _ _) | (with_reducible exact heap_5_2 _ _ _ _ _ _) | (with_reducible exact heap_5_3 _ _ _ _ _ _) | (with_reducible exact heap_5_4 _ _ _ _ _ _) | (with_reducible exact heap_6_0 _ _ _ _ _ _ _) | (with_reducible exact heap_6_1 _ _ _ _ _ _ _) | (with_reducible exact heap_6_2 _ _ _ _ _ _ _) | (with_reducible exact heap_6_3 _ _ _ _ _ _ _) | (with_reducible exact heap_6_4 _ _ _ _ _ _ _) | (with_reducible exact heap_6_5 _ _ _ _ _ _ _) | simp only [heap_alloc_past, heap_alloc_at, World.size_alloc, Nat.add_assoc, Nat.reduceAdd, Nat.lt_add_right_iff_pos, Nat.add_lt_add_iff_left, Nat.reduceLT, Nat.zero_lt_succ, Nat.lt_add_one]) Try.underlying41 rfl (by rw [Bits.num_size]; exact numInfo)
/-- The bits that the reference has laid of a sum. -/
def Bits.summed (a b k : Nat) : Array Value := Bits.row 128 (fun i => decide (i < k) && (a + b).testBit i)
theorem Bits.summed_zero (a b : Nat) : Bits.summed a b 0 = Bits.num 0 := by
  unfold Bits.summed Bits.num
  apply Bits.row_ext
  intro i _
  simp
theorem Bits.summed_step (a b k : Nat) (v : Bool) (hv : v = (a + b).testBit k) : (Bits.summed a b k).setIfInBounds k (.bool v) = Bits.summed a b (k + 1) := by
  unfold Bits.summed
  rw [Bits.row_set]
  apply Bits.row_ext
  intro i _
  by_cases h2 : i = k
  · subst h2
    simp [hv]
  · have e1 : decide (i < k + 1) = decide (i < k) := by rw [Bool.eq_iff_iff]; simp; omega
    simp [h2, e1]
theorem Bits.summed_end (a b : Nat) : Bits.summed a b 128 = Bits.num (a + b) := by
  unfold Bits.summed Bits.num
  apply Bits.row_ext
  intro i hi
  simp [hi]

def Bits.sum (a b : Nat) : Nat := if a + b < 2 ^ 128 then a + b else 0
def Bits.fits (a b : Nat) : Bool := decide (a + b < 2 ^ 128)
def Bits.small (x : Nat) : Int := if x < 9223372036854775808 then x else 9223372036854775807

set_option maxRecDepth 100000 in
theorem ref_numAdd (a b : Nat) (ha : a < 2 ^ 128) (hb : b < 2 ^ 128) (w : World) :
    Calls Try.prog 31 #[.agg (Bits.num a), .agg (Bits.num b)] w fun e w' => e = .returned (.tuple #[.agg (Bits.num (Bits.sum a b)), .bool (Bits.fits a b)]) ∧ Below w.heap.size w w' := by
  have HE := Lib.hid (Bits.summed_end a b)
  have HZ := Lib.hid (Bits.summed_zero a b)
  have HC := Lib.hid (Bits.carry_end a b ha hb)
  clear ha hb
  go_enter Try.func31, Try.ntmps31
  go_wp2_with (first | ((with_reducible refine wpList_alloc_as rfl _ rfl _ (numZero _) ?_); (try simp only [World.size_alloc])))
  go_loopw [7, 8] (fun c i wr => ∃ k : Nat, k ≤ 128 ∧ i = .int .i64 k ∧ c = .int .i64 (Bits.carry a b k) ∧ wr = (((w.alloc (.cells (Bits.num a) 41)).alloc (.cells (Bits.num b) 41)).alloc (.cells (Bits.num 0) 41)).alloc (.cells (Bits.summed a b k) 41)) (fun _ i _ => 128 - (intOf i).toNat)
  case atStart => exact ⟨0, by omega, rfl, int_eq (by simp [Bits.carry, Nat.mod_one]), by rw [HZ.out]⟩
  case round =>
    obtain ⟨k, hk, rfl, rfl, rfl⟩ := hrel
    by_cases hlt : k < 128
    · have g1 := Bits.num_get a k hlt
      have g2 := Bits.num_get b k hlt
      obtain ⟨x3, g3⟩ : ∃ v, (Bits.summed a b k)[k]? = some v := ⟨_, Bits.row_get _ _ _ (by omega)⟩
      have hs := Bits.carry_step a b k
      have hc := Bits.carry_le a b k
      have HS := Lib.hid (Bits.summed_step a b k)
      obtain ⟨c, hcc⟩ : ∃ c, c = Bits.carry a b k := ⟨_, rfl⟩
      rw [← hcc] at hs hc ⊢
      clear hcc
      cases h1 : a.testBit k <;> cases h2 : b.testBit k
      all_goals
        rw [h1, h2] at hs
        rw [h1] at g1
        rw [h2] at g2
        simp only [Bool.toNat_false, Bool.toNat_true, Nat.add_zero] at hs
        have HS1 := Lib.hid hs.1
        have HS2 := Lib.hid hs.2
        clear hs h1 h2
        go_wp2
        go_roundw
        case rel => exact ⟨k + 1, by omega, by go_num, int_eq (by rw [HS1.out]; omega), by rw [HS.out _ (by rw [HS2.out, Bool.eq_iff_iff]; simp; omega)]⟩
        case measure => simp [intOf]; omega
    · obtain rfl : k = 128 := by omega
      have e := HE.out
      rw [e]
      have hc := Bits.carry_le a b 128
      have hce := HC.out
      generalize Bits.carry a b 128 = c at *
      by_cases hf : a + b < 2 ^ 128
      · have hc0 : c = 0 := hce.2 hf
        subst hc0
        have HF := Lib.hid hf
        clear hce hf
        go_wp2_with (first | ((with_reducible refine wpList_load_rowAs rfl 41 _ rfl ((w.heap.size + 3)) ?_ 41 (Bits.num (a + b)) (0, 0) _ 128 ?_ Try.underlying41 rfl numInfo (Bits.num_size _) ?_); exact rfl; exact (by first | (with_reducible exact heap_1_0 _ _) | (with_reducible exact heap_2_0 _ _ _) | (with_reducible exact heap_2_1 _ _ _) | (with_reducible exact heap_3_0 _ _ _ _) | (with_reducible exact heap_3_1 _ _ _ _) | (with_reducible exact heap_3_2 _ _ _ _) | (with_reducible exact heap_4_0 _ _ _ _ _) | (with_reducible exact heap_4_1 _ _ _ _ _) | (with_reducible exact heap_4_2 _ _ _ _ _) | (with_reducible exact heap_4_3 _ _ _ _ _) | (with_reducible exact heap_5_0 _ _ _ _ _ _) | (with_reducible exact heap_5_1 _ _ _ _ _ _) | (with_reducible exact heap_5_2 _ _ _ _ _ _) | (with_reducible exact heap_5_3 _ _ _ _ _ _) | (with_reducible exact heap_5_4 _ _ _ _ _ _) | (with_reducible exact heap_6_0 _ _ _ _ _ _ _) | (with_reducible exact heap_6_1 _ _ _ _ _ _ _) | (with_reducible exact heap_6_2 _ _ _ _ _ _ _) | (with_reducible exact heap_6_3 _ _ _ _ _ _ _) | (with_reducible exact heap_6_4 _ _ _ _ _ _ _) | (with_reducible exact heap_6_5 _ _ _ _ _ _ _) | simp only [heap_alloc_past, heap_alloc_at, World.size_alloc, Nat.add_assoc, Nat.reduceAdd, Nat.lt_add_right_iff_pos, Nat.add_lt_add_iff_left, Nat.reduceLT, Nat.zero_lt_succ, Nat.lt_add_one])) | ((with_reducible refine wpList_store_rowAs rfl 41 _ _ rfl ((w.heap.size + 2)) (Bits.num (a + b)) ?_ ?_ 41 (Bits.num 0) 128 ?_ numInfo (Bits.num_size _) (Bits.num_size _) (num_oneCell _) ?_); exact rfl; exact rfl; exact (by first | (with_reducible exact heap_1_0 _ _) | (with_reducible exact heap_2_0 _ _ _) | (with_reducible exact heap_2_1 _ _ _) | (with_reducible exact heap_3_0 _ _ _ _) | (with_reducible exact heap_3_1 _ _ _ _) | (with_reducible exact heap_3_2 _ _ _ _) | (with_reducible exact heap_4_0 _ _ _ _ _) | (with_reducible exact heap_4_1 _ _ _ _ _) | (with_reducible exact heap_4_2 _ _ _ _ _) | (with_reducible exact heap_4_3 _ _ _ _ _) | (with_reducible exact heap_5_0 _ _ _ _ _ _) | (with_reducible exact heap_5_1 _ _ _ _ _ _) | (with_reducible exact heap_5_2 _ _ _ _ _ _) | (with_reducible exact heap_5_3 _ _ _ _ _ _) | (with_reducible exact heap_5_4 _ _ _ _ _ _) | (with_reducible exact heap_6_0 _ _ _ _ _ _ _) | (with_reducible exact heap_6_1 _ _ _ _ _ _ _) | (with_reducible exact heap_6_2 _ _ _ _ _ _ _) | (with_reducible exact heap_6_3 _ _ _ _ _ _ _) | (with_reducible exact heap_6_4 _ _ _ _ _ _ _) | (with_reducible exact heap_6_5 _ _ _ _ _ _ _) | simp only [heap_alloc_past, heap_alloc_at, World.size_alloc, Nat.add_assoc, Nat.reduceAdd, Nat.lt_add_right_iff_pos, Nat.add_lt_add_iff_left, Nat.reduceLT, Nat.zero_lt_succ, Nat.lt_add_one]); (first | rw [row_1_0] | rw [row_2_0] | rw [row_2_1] | rw [row_3_0] | rw [row_3_1] | rw [row_3_2] | rw [row_4_0] | rw [row_4_1] | rw [row_4_2] | rw [row_4_3] | rw [row_5_0] | rw [row_5_1] | rw [row_5_2] | rw [row_5_3] | rw [row_5_4] | rw [row_6_0] | rw [row_6_1] | rw [row_6_2] | rw [row_6_3] | rw [row_6_4] | rw [row_6_5] | simp only [setRow_alloc_past, setRow_alloc_at, World.size_alloc, Nat.add_assoc, Nat.reduceAdd, Nat.lt_add_right_iff_pos, Nat.add_lt_add_iff_left, Nat.reduceLT, Nat.zero_lt_succ, Nat.lt_add_one])))
        refine bodyPost_ret (v := .tuple #[.agg (Bits.num (a + b)), .bool true]) ?_ rfl ⟨?_, below4 _ _ _ _ _⟩
        · exact results_row_tmp rfl _ _ (w.heap.size + 2) 41 (Bits.num (a + b)) (0, 0) _ 128 (.bool true) rfl rfl (by first | (with_reducible exact heap_1_0 _ _) | (with_reducible exact heap_2_0 _ _ _) | (with_reducible exact heap_2_1 _ _ _) | (with_reducible exact heap_3_0 _ _ _ _) | (with_reducible exact heap_3_1 _ _ _ _) | (with_reducible exact heap_3_2 _ _ _ _) | (with_reducible exact heap_4_0 _ _ _ _ _) | (with_reducible exact heap_4_1 _ _ _ _ _) | (with_reducible exact heap_4_2 _ _ _ _ _) | (with_reducible exact heap_4_3 _ _ _ _ _) | (with_reducible exact heap_5_0 _ _ _ _ _ _) | (with_reducible exact heap_5_1 _ _ _ _ _ _) | (with_reducible exact heap_5_2 _ _ _ _ _ _) | (with_reducible exact heap_5_3 _ _ _ _ _ _) | (with_reducible exact heap_5_4 _ _ _ _ _ _) | (with_reducible exact heap_6_0 _ _ _ _ _ _ _) | (with_reducible exact heap_6_1 _ _ _ _ _ _ _) | (with_reducible exact heap_6_2 _ _ _ _ _ _ _) | (with_reducible exact heap_6_3 _ _ _ _ _ _ _) | (with_reducible exact heap_6_4 _ _ _ _ _ _ _) | (with_reducible exact heap_6_5 _ _ _ _ _ _ _) | simp only [heap_alloc_past, heap_alloc_at, World.size_alloc, Nat.add_assoc, Nat.reduceAdd, Nat.lt_add_right_iff_pos, Nat.add_lt_add_iff_left, Nat.reduceLT, Nat.zero_lt_succ, Nat.lt_add_one]) Try.underlying41 rfl numInfo (Bits.num_size _)
        · exact ret_two (by unfold Bits.sum; rw [if_pos HF.out]) (by unfold Bits.fits; rw [decide_eq_true HF.out])
      · have hc1 : c = 1 := by have := mt hce.1 hf; omega
        subst hc1
        have HF := Lib.hid hf
        clear hce hf
        go_wp2_with (first | (with_reducible refine wpList_build_as rfl _ rfl _ numBuilt ?_) | ((with_reducible refine wpList_store_rowAs rfl 41 _ _ rfl ((w.heap.size + 2)) (Bits.num 0) ?_ ?_ 41 (Bits.num 0) 128 ?_ numInfo (Bits.num_size _) (Bits.num_size _) (num_oneCell _) ?_); exact rfl; exact rfl; exact (by first | (with_reducible exact heap_1_0 _ _) | (with_reducible exact heap_2_0 _ _ _) | (with_reducible exact heap_2_1 _ _ _) | (with_reducible exact heap_3_0 _ _ _ _) | (with_reducible exact heap_3_1 _ _ _ _) | (with_reducible exact heap_3_2 _ _ _ _) | (with_reducible exact heap_4_0 _ _ _ _ _) | (with_reducible exact heap_4_1 _ _ _ _ _) | (with_reducible exact heap_4_2 _ _ _ _ _) | (with_reducible exact heap_4_3 _ _ _ _ _) | (with_reducible exact heap_5_0 _ _ _ _ _ _) | (with_reducible exact heap_5_1 _ _ _ _ _ _) | (with_reducible exact heap_5_2 _ _ _ _ _ _) | (with_reducible exact heap_5_3 _ _ _ _ _ _) | (with_reducible exact heap_5_4 _ _ _ _ _ _) | (with_reducible exact heap_6_0 _ _ _ _ _ _ _) | (with_reducible exact heap_6_1 _ _ _ _ _ _ _) | (with_reducible exact heap_6_2 _ _ _ _ _ _ _) | (with_reducible exact heap_6_3 _ _ _ _ _ _ _) | (with_reducible exact heap_6_4 _ _ _ _ _ _ _) | (with_reducible exact heap_6_5 _ _ _ _ _ _ _) | simp only [heap_alloc_past, heap_alloc_at, World.size_alloc, Nat.add_assoc, Nat.reduceAdd, Nat.lt_add_right_iff_pos, Nat.add_lt_add_iff_left, Nat.reduceLT, Nat.zero_lt_succ, Nat.lt_add_one]); (first | rw [row_1_0] | rw [row_2_0] | rw [row_2_1] | rw [row_3_0] | rw [row_3_1] | rw [row_3_2] | rw [row_4_0] | rw [row_4_1] | rw [row_4_2] | rw [row_4_3] | rw [row_5_0] | rw [row_5_1] | rw [row_5_2] | rw [row_5_3] | rw [row_5_4] | rw [row_6_0] | rw [row_6_1] | rw [row_6_2] | rw [row_6_3] | rw [row_6_4] | rw [row_6_5] | simp only [setRow_alloc_past, setRow_alloc_at, World.size_alloc, Nat.add_assoc, Nat.reduceAdd, Nat.lt_add_right_iff_pos, Nat.add_lt_add_iff_left, Nat.reduceLT, Nat.zero_lt_succ, Nat.lt_add_one])))
        refine bodyPost_ret (v := .tuple #[.agg (Bits.num 0), .bool false]) ?_ rfl ⟨?_, below4 _ _ _ _ _⟩
        · exact results_row_tmp rfl _ _ (w.heap.size + 2) 41 (Bits.num 0) (0, 0) _ 128 (.bool false) rfl rfl (by first | (with_reducible exact heap_1_0 _ _) | (with_reducible exact heap_2_0 _ _ _) | (with_reducible exact heap_2_1 _ _ _) | (with_reducible exact heap_3_0 _ _ _ _) | (with_reducible exact heap_3_1 _ _ _ _) | (with_reducible exact heap_3_2 _ _ _ _) | (with_reducible exact heap_4_0 _ _ _ _ _) | (with_reducible exact heap_4_1 _ _ _ _ _) | (with_reducible exact heap_4_2 _ _ _ _ _) | (with_reducible exact heap_4_3 _ _ _ _ _) | (with_reducible exact heap_5_0 _ _ _ _ _ _) | (with_reducible exact heap_5_1 _ _ _ _ _ _) | (with_reducible exact heap_5_2 _ _ _ _ _ _) | (with_reducible exact heap_5_3 _ _ _ _ _ _) | (with_reducible exact heap_5_4 _ _ _ _ _ _) | (with_reducible exact heap_6_0 _ _ _ _ _ _ _) | (with_reducible exact heap_6_1 _ _ _ _ _ _ _) | (with_reducible exact heap_6_2 _ _ _ _ _ _ _) | (with_reducible exact heap_6_3 _ _ _ _ _ _ _) | (with_reducible exact heap_6_4 _ _ _ _ _ _ _) | (with_reducible exact heap_6_5 _ _ _ _ _ _ _) | simp only [heap_alloc_past, heap_alloc_at, World.size_alloc, Nat.add_assoc, Nat.reduceAdd, Nat.lt_add_right_iff_pos, Nat.add_lt_add_iff_left, Nat.reduceLT, Nat.zero_lt_succ, Nat.lt_add_one]) Try.underlying41 rfl numInfo (Bits.num_size _)
        · exact ret_two (by unfold Bits.sum; rw [if_neg HF.out]) (by unfold Bits.fits; rw [decide_eq_false HF.out])

theorem Bits.small_none (x k : Nat) (h : x / 2 ^ k = 0) : x < 2 ^ k := Nat.lt_of_div_eq_zero (Nat.two_pow_pos _) h

set_option maxRecDepth 100000 in
theorem ref_small (x : Nat) (hx : x < 2 ^ 128) (w : World) :
    Calls Try.prog 43 #[.agg (Bits.num x)] w fun e w' => e = .returned (.int .i64 (Bits.small x)) ∧ Below w.heap.size w w' := by
  have HX := Lib.hid hx
  clear hx
  go_enter Try.func43, Try.ntmps43
  go_wp2
  go_loop [3] (fun i => ∃ k : Nat, 63 ≤ k ∧ k ≤ 128 ∧ i = .int .i64 k ∧ x % 2 ^ k < 2 ^ 63) (fun i => 128 - (intOf i).toNat)
  case atStart => exact ⟨63, by omega, by omega, rfl, Nat.mod_lt _ (by omega)⟩
  case round =>
    obtain ⟨k, h1, hk, rfl, hm⟩ := hrel
    have HM := Lib.hid hm
    clear hm
    by_cases hlt : k < 128
    · have g1 := Bits.num_get x k hlt
      cases hb : x.testBit k
      · rw [hb] at g1
        have HB := Lib.hid hb
        clear hb
        go_wp2
        go_round
        case rel =>
          refine ⟨k + 1, by omega, by omega, by go_num, ?_⟩
          have := Nat.mod_pow_succ (x := x) (b := 2) (k := k)
          rw [this]
          have h2 := HB.out
          rw [Nat.testBit_eq_decide_div_mod_eq] at h2
          have h3 : x / 2 ^ k % 2 = 0 := by simp at h2; omega
          rw [h3]
          exact HM.out
        case measure => simp [intOf]; omega
      · rw [hb] at g1
        have HB := Lib.hid hb
        clear hb
        go_wp2
        go_ret
        refine ⟨ret_int ?_, below1 _ _⟩
        have hge := Nat.ge_two_pow_of_testBit HB.out
        have : 2 ^ 63 ≤ 2 ^ k := Nat.pow_le_pow_right (by omega) h1
        unfold Bits.small
        rw [if_neg (by omega)]
    · obtain rfl : k = 128 := by omega
      have hxs : x < 9223372036854775808 := by have := HM.out; rw [Nat.mod_eq_of_lt HX.out] at this; omega
      have hmod : x % 2 ^ 64 = x := Nat.mod_eq_of_lt (by omega)
      have hl := ref_lo x
      rw [hmod] at hl
      clear hmod
      go_wp2_with (first | ((with_reducible refine wpList_load_rowAs rfl 41 _ rfl (w.heap.size) ?_ 41 (Bits.num x) (0, 0) _ 128 ?_ Try.underlying41 rfl numInfo (Bits.num_size _) ?_); exact rfl; exact (by first | (with_reducible exact heap_1_0 _ _) | (with_reducible exact heap_2_0 _ _ _) | (with_reducible exact heap_2_1 _ _ _) | (with_reducible exact heap_3_0 _ _ _ _) | (with_reducible exact heap_3_1 _ _ _ _) | (with_reducible exact heap_3_2 _ _ _ _) | (with_reducible exact heap_4_0 _ _ _ _ _) | (with_reducible exact heap_4_1 _ _ _ _ _) | (with_reducible exact heap_4_2 _ _ _ _ _) | (with_reducible exact heap_4_3 _ _ _ _ _) | (with_reducible exact heap_5_0 _ _ _ _ _ _) | (with_reducible exact heap_5_1 _ _ _ _ _ _) | (with_reducible exact heap_5_2 _ _ _ _ _ _) | (with_reducible exact heap_5_3 _ _ _ _ _ _) | (with_reducible exact heap_5_4 _ _ _ _ _ _) | (with_reducible exact heap_6_0 _ _ _ _ _ _ _) | (with_reducible exact heap_6_1 _ _ _ _ _ _ _) | (with_reducible exact heap_6_2 _ _ _ _ _ _ _) | (with_reducible exact heap_6_3 _ _ _ _ _ _ _) | (with_reducible exact heap_6_4 _ _ _ _ _ _ _) | (with_reducible exact heap_6_5 _ _ _ _ _ _ _) | simp only [heap_alloc_past, heap_alloc_at, World.size_alloc, Nat.add_assoc, Nat.reduceAdd, Nat.lt_add_right_iff_pos, Nat.add_lt_add_iff_left, Nat.reduceLT, Nat.zero_lt_succ, Nat.lt_add_one])))
      refine (hl _).mono ?_
      rintro e w' ⟨rfl, hb⟩
      go_wp2
      go_ret
      refine ⟨ret_int ?_, (below1 _ _).trans (hb.mono (by simp))⟩
      unfold Bits.small
      rw [if_pos hxs]
end Go.Proofs.Ythlcjigpccmbmaa
