/- Contracts of layer 2's reference: numbers of 128 bits, bit by bit. -/
import Derived.Test.YtldhbgefpfmkmaaGreatJBase
namespace Go.Proofs.YtldhbgefpfmkmaaGreat
open Go.ChangeShapes Go.WideShapes Go.ChangeAt Go.RowKit

theorem Bits.bit_eq (lo k : Nat) : ((lo : Int) / 2 ^ k % 2 == 1) = lo.testBit k := by
  rw [Nat.testBit_eq_decide_div_mod_eq]
  have e : ((lo / 2 ^ k % 2 : Nat) : Int) = (lo : Int) / 2 ^ k % 2 := by simp
  rw [← e]
  rw [Bool.eq_iff_iff]
  simp
  omega

/-- The bits that the reference has laid behind k rounds. -/
def Bits.laid (hi lo k : Nat) : Array Value := Bits.row 128 (fun i => if i < 64 then decide (i < k) && lo.testBit i else decide (i - 64 < k) && hi.testBit (i - 64))

theorem Bits.laid_zero (hi lo : Nat) : Bits.laid hi lo 0 = Bits.num 0 := by
  unfold Bits.laid Bits.num
  apply Bits.row_ext
  intro i _
  simp
theorem Bits.laid_step (hi lo k : Nat) (h : k < 64) : ((Bits.laid hi lo k).setIfInBounds k (.bool (lo.testBit k))).setIfInBounds (64 + k) (.bool (hi.testBit k)) = Bits.laid hi lo (k + 1) := by
  unfold Bits.laid
  rw [Bits.row_set, Bits.row_set]
  apply Bits.row_ext
  intro i hi
  by_cases h1 : i = 64 + k
  · subst h1
    rw [if_pos rfl, if_neg (by omega)]
    simp
  · by_cases h2 : i = k
    · subst h2
      simp [h]
    · simp only [h1, h2, if_false]
      have e1 : decide (i < k + 1) = decide (i < k) := by rw [Bool.eq_iff_iff]; simp; omega
      have e2 : ¬ i < 64 → decide (i - 64 < k + 1) = decide (i - 64 < k) := by intro _; rw [Bool.eq_iff_iff]; simp; omega
      by_cases h3 : i < 64
      · simp [h3, e1]
      · simp [h3, e2 h3]
theorem Bits.laid_end (hi lo : Nat) (h : lo < 2 ^ 64) : Bits.laid hi lo 64 = Bits.num (hi * 2 ^ 64 + lo) := by
  unfold Bits.laid Bits.num
  apply Bits.row_ext
  intro i hi
  rw [Bits.testBit_words _ _ h]
  by_cases h3 : i < 64
  · simp [h3]
  · simp [h3, show i - 64 < 64 by omega]

theorem ref_of (hi lo : Nat) (h1 : hi < 18446744073709551616) (h2 : lo < 18446744073709551616) (w : World) :
    Calls Tryz.prog 104 #[.int .u64 hi, .int .u64 lo] w fun e w' => e = .returned (.agg (Bits.num (hi * 2 ^ 64 + lo))) ∧ Below w.heap.size w w' := by
  have HE := Lib.hid (Bits.laid_end hi lo h2)
  have HZ := Lib.hid (Bits.laid_zero hi lo)
  go_enter Tryz.func104, Tryz.ntmps104
  go_wp2_with (with_reducible refine wpList_alloc_as rfl _ rfl _ (numZero _) ?_)
  go_loopw [6] (fun i wr => ∃ k : Nat, k ≤ 64 ∧ i = .int .i64 k ∧ wr = (w.alloc (.cells (Bits.num 0) 130)).alloc (.cells (Bits.laid hi lo k) 130)) (fun i _ => 64 - (intOf i).toNat)
  case atStart => exact ⟨0, by omega, rfl, by rw [HZ.out]⟩
  case round =>
    obtain ⟨k, hk, rfl, rfl⟩ := hrel
    by_cases hlt : k < 64
    · have HS := Lib.hid (Bits.laid_step hi lo k hlt)
      have b1 := Bits.bit_eq lo k
      have b2 := Bits.bit_eq hi k
      have n1 : 0 ≤ (lo : Int) / 2 ^ k := Int.ediv_nonneg (by omega) (Int.le_of_lt (Int.pow_pos (by omega)))
      have n2 : 0 ≤ (hi : Int) / 2 ^ k := Int.ediv_nonneg (by omega) (Int.le_of_lt (Int.pow_pos (by omega)))
      obtain ⟨x1, g1⟩ : ∃ x, (Bits.laid hi lo k)[k]? = some x := ⟨_, Bits.row_get _ _ _ (by omega)⟩
      obtain ⟨x2, g2⟩ : ∃ x, (Bits.laid hi lo k)[64 + k]? = some x := ⟨_, Bits.row_get _ _ _ (by omega)⟩
      go_wp2
      go_roundw
      case rel => exact ⟨k + 1, by omega, by go_num, by rw [HS.out]⟩
      case measure => simp [intOf]; omega
    · obtain rfl : k = 64 := by omega
      have e := HE.out
      rw [e]
      have hu := Tryz.underlying130
      go_wp2_with (first | (with_reducible refine wpList_load_rowAs rfl 130 _ rfl (w.heap.size + 1) rfl 130 (Bits.num (hi * 2 ^ 64 + lo)) (0, 0) _ 128 (by rw [heap_alloc_at]; simp) hu rfl numInfo (Bits.num_size _) ?_) | ((with_reducible refine wpList_store_rowAs rfl 130 _ _ rfl w.heap.size (Bits.num (hi * 2 ^ 64 + lo)) rfl rfl 130 (Bits.num 0) 128 (by simp only [heap_alloc_past, heap_alloc_at, World.size_alloc, Nat.lt_add_one]) numInfo (Bits.num_size _) (Bits.num_size _) (num_oneCell _) ?_); simp only [setRow_alloc_past, setRow_alloc_at, World.size_alloc, Nat.lt_add_one]))
      refine bodyPost_ret (v := .agg (Bits.num (hi * 2 ^ 64 + lo))) ?_ rfl ⟨rfl, (((Below.refl _ _).alloc (Nat.le_refl _) _).alloc (by simp) _)⟩
      exact results_cell_row rfl _ _ w.heap.size 130 (Bits.num (hi * 2 ^ 64 + lo)) (0, 0) _ rfl (by simp only [heap_alloc_past, heap_alloc_at, World.size_alloc, Nat.lt_add_one]) hu rfl (by rw [Bits.num_size]; exact numInfo)

theorem Bits.hi_step (x i : Nat) (hi : 64 ≤ i) (hx : x < 2 ^ 128) : x / 2 ^ i < 18446744073709551616 := by
  have : x / 2 ^ i ≤ x / 2 ^ 64 := Nat.div_le_div_left (Nat.pow_le_pow_right (by omega) hi) (Nat.two_pow_pos _)
  have h2 : x / 2 ^ 64 < 2 ^ 64 := Nat.div_lt_of_lt_mul (by omega)
  omega

/-- The bits that the reference has laid of a doubled number. -/
def Bits.doubled (x k : Nat) : Array Value := Bits.row 128 (fun i => decide (i < k) && (2 * x).testBit i)
theorem Bits.doubled_one (x : Nat) : Bits.doubled x 1 = Bits.num 0 := by
  unfold Bits.doubled Bits.num
  apply Bits.row_ext
  intro i _
  by_cases h : i = 0
  · subst h
    simp [Nat.testBit_zero]
  · simp [show ¬ i < 1 by omega]
theorem Bits.doubled_step (x k : Nat) (h : 1 ≤ k) : (Bits.doubled x k).setIfInBounds k (.bool (x.testBit (k - 1))) = Bits.doubled x (k + 1) := by
  unfold Bits.doubled
  rw [Bits.row_set]
  apply Bits.row_ext
  intro i _
  by_cases h2 : i = k
  · subst h2
    have : (2 * x).testBit i = x.testBit (i - 1) := by
      obtain ⟨m, rfl⟩ : ∃ m, i = m + 1 := ⟨i - 1, by omega⟩
      rw [Nat.testBit_succ, Nat.mul_div_cancel_left _ (by omega)]
      rfl
    simp [this]
  · have e1 : decide (i < k + 1) = decide (i < k) := by rw [Bool.eq_iff_iff]; simp; omega
    simp [h2, e1]
theorem Bits.doubled_end (x : Nat) : Bits.doubled x 128 = Bits.num (2 * x) := by
  unfold Bits.doubled Bits.num
  apply Bits.row_ext
  intro i hi
  simp [hi]

set_option maxRecDepth 100000 in
theorem ref_double (x : Nat) (w : World) :
    Calls Tryz.prog 105 #[.agg (Bits.num x)] w fun e w' => e = .returned (.agg (Bits.num (2 * x))) ∧ Below w.heap.size w w' := by
  have HE := Lib.hid (Bits.doubled_end x)
  have HZ := Lib.hid (Bits.doubled_one x)
  go_enter Tryz.func105, Tryz.ntmps105
  go_wp2_with (first | ((with_reducible refine wpList_alloc_as rfl _ rfl _ (numZero _) ?_); (try simp only [World.size_alloc])))
  go_loopw [4] (fun i wr => ∃ k : Nat, 1 ≤ k ∧ k ≤ 128 ∧ i = .int .i64 k ∧ wr = ((w.alloc (.cells (Bits.num x) 130)).alloc (.cells (Bits.num 0) 130)).alloc (.cells (Bits.doubled x k) 130)) (fun i _ => 128 - (intOf i).toNat)
  case atStart => exact ⟨1, by omega, by omega, rfl, by rw [HZ.out]⟩
  case round =>
    obtain ⟨k, h1, hk, rfl, rfl⟩ := hrel
    by_cases hlt : k < 128
    · have HS := Lib.hid (Bits.doubled_step x k h1)
      have g1 := Bits.num_get x (k - 1) (by omega)
      obtain ⟨x2, g2⟩ : ∃ v, (Bits.doubled x k)[k]? = some v := ⟨_, Bits.row_get _ _ _ (by omega)⟩
      have he : ((k : Int) - 1).toNat = k - 1 := by omega
      go_wp2
      go_roundw
      case rel => exact ⟨k + 1, by omega, by omega, by go_num, by rw [HS.out]⟩
      case measure => simp [intOf]; omega
    · obtain rfl : k = 128 := by omega
      have e := HE.out
      rw [e]
      go_wp2_with (first | ((with_reducible refine wpList_load_rowAs rfl 130 _ rfl ((w.heap.size + 2)) ?_ 130 (Bits.num (2 * x)) (0, 0) _ 128 ?_ Tryz.underlying130 rfl numInfo (Bits.num_size _) ?_); exact rfl; exact (by first | (with_reducible exact heap_1_0 _ _) | (with_reducible exact heap_2_0 _ _ _) | (with_reducible exact heap_2_1 _ _ _) | (with_reducible exact heap_3_0 _ _ _ _) | (with_reducible exact heap_3_1 _ _ _ _) | (with_reducible exact heap_3_2 _ _ _ _) | (with_reducible exact heap_4_0 _ _ _ _ _) | (with_reducible exact heap_4_1 _ _ _ _ _) | (with_reducible exact heap_4_2 _ _ _ _ _) | (with_reducible exact heap_4_3 _ _ _ _ _) | (with_reducible exact heap_5_0 _ _ _ _ _ _) | (with_reducible exact heap_5_1 _ _ _ _ _ _) | (with_reducible exact heap_5_2 _ _ _ _ _ _) | (with_reducible exact heap_5_3 _ _ _ _ _ _) | (with_reducible exact heap_5_4 _ _ _ _ _ _) | (with_reducible exact heap_6_0 _ _ _ _ _ _ _) | (with_reducible exact heap_6_1 _ _ _ _ _ _ _) | (with_reducible exact heap_6_2 _ _ _ _ _ _ _) | (with_reducible exact heap_6_3 _ _ _ _ _ _ _) | (with_reducible exact heap_6_4 _ _ _ _ _ _ _) | (with_reducible exact heap_6_5 _ _ _ _ _ _ _) | simp only [heap_alloc_past, heap_alloc_at, World.size_alloc, Nat.add_assoc, Nat.reduceAdd, Nat.lt_add_right_iff_pos, Nat.add_lt_add_iff_left, Nat.reduceLT, Nat.zero_lt_succ, Nat.lt_add_one])) | ((with_reducible refine wpList_store_rowAs rfl 130 _ _ rfl ((w.heap.size + 1)) (Bits.num (2 * x)) ?_ ?_ 130 (Bits.num 0) 128 ?_ numInfo (Bits.num_size _) (Bits.num_size _) (num_oneCell _) ?_); exact rfl; exact rfl; exact (by first | (with_reducible exact heap_1_0 _ _) | (with_reducible exact heap_2_0 _ _ _) | (with_reducible exact heap_2_1 _ _ _) | (with_reducible exact heap_3_0 _ _ _ _) | (with_reducible exact heap_3_1 _ _ _ _) | (with_reducible exact heap_3_2 _ _ _ _) | (with_reducible exact heap_4_0 _ _ _ _ _) | (with_reducible exact heap_4_1 _ _ _ _ _) | (with_reducible exact heap_4_2 _ _ _ _ _) | (with_reducible exact heap_4_3 _ _ _ _ _) | (with_reducible exact heap_5_0 _ _ _ _ _ _) | (with_reducible exact heap_5_1 _ _ _ _ _ _) | (with_reducible exact heap_5_2 _ _ _ _ _ _) | (with_reducible exact heap_5_3 _ _ _ _ _ _) | (with_reducible exact heap_5_4 _ _ _ _ _ _) | (with_reducible exact heap_6_0 _ _ _ _ _ _ _) | (with_reducible exact heap_6_1 _ _ _ _ _ _ _) | (with_reducible exact heap_6_2 _ _ _ _ _ _ _) | (with_reducible exact heap_6_3 _ _ _ _ _ _ _) | (with_reducible exact heap_6_4 _ _ _ _ _ _ _) | (with_reducible exact heap_6_5 _ _ _ _ _ _ _) | simp only [heap_alloc_past, heap_alloc_at, World.size_alloc, Nat.add_assoc, Nat.reduceAdd, Nat.lt_add_right_iff_pos, Nat.add_lt_add_iff_left, Nat.reduceLT, Nat.zero_lt_succ, Nat.lt_add_one]); (first | rw [row_1_0] | rw [row_2_0] | rw [row_2_1] | rw [row_3_0] | rw [row_3_1] | rw [row_3_2] | rw [row_4_0] | rw [row_4_1] | rw [row_4_2] | rw [row_4_3] | rw [row_5_0] | rw [row_5_1] | rw [row_5_2] | rw [row_5_3] | rw [row_5_4] | rw [row_6_0] | rw [row_6_1] | rw [row_6_2] | rw [row_6_3] | rw [row_6_4] | rw [row_6_5] | simp only [setRow_alloc_past, setRow_alloc_at, World.size_alloc, Nat.add_assoc, Nat.reduceAdd, Nat.lt_add_right_iff_pos, Nat.add_lt_add_iff_left, Nat.reduceLT, Nat.zero_lt_succ, Nat.lt_add_one])))
      refine bodyPost_ret (v := .agg (Bits.num (2 * x))) ?_ rfl ⟨rfl, below3 _ _ _ _⟩
      exact results_cell_row rfl _ _ (w.heap.size + 1) 130 (Bits.num (2 * x)) (0, 0) _ rfl (by first | (with_reducible exact heap_1_0 _ _) | (with_reducible exact heap_2_0 _ _ _) | (with_reducible exact heap_2_1 _ _ _) | (with_reducible exact heap_3_0 _ _ _ _) | (with_reducible exact heap_3_1 _ _ _ _) | (with_reducible exact heap_3_2 _ _ _ _) | (with_reducible exact heap_4_0 _ _ _ _ _) | (with_reducible exact heap_4_1 _ _ _ _ _) | (with_reducible exact heap_4_2 _ _ _ _ _) | (with_reducible exact heap_4_3 _ _ _ _ _) | (with_reducible exact heap_5_0 _ _ _ _ _ _) | (with_reducible exact heap_5_1 _ _ _ _ _ _) | (with_reducible exact heap_5_2 _ _ _ _ _ _) | (with_reducible exact heap_5_3 _ _ _ _ _ _) | (with_reducible exact heap_5_4 _ _ _ _ _ _) | (with_reducible exact heap_6_0 _ _ _ _ _ _ _) | (with_reducible exact heap_6_1 _ _ _ _ _ _ _) | (with_reducible exact heap_6_2 _ _ _ _ _ _ _) | (with_reducible exact heap_6_3 _ _ _ _ _ _ _) | (with_reducible exact heap_6_4 _ _ _ _ _ _ _) | (with_reducible exact heap_6_5 _ _ _ _ _ _ _) | simp only [heap_alloc_past, heap_alloc_at, World.size_alloc, Nat.add_assoc, Nat.reduceAdd, Nat.lt_add_right_iff_pos, Nat.add_lt_add_iff_left, Nat.reduceLT, Nat.zero_lt_succ, Nat.lt_add_one]) Tryz.underlying130 rfl (by rw [Bits.num_size]; exact numInfo)
/-- The bits that the reference has laid of a sum. -/
def Bits.summed (a b k : Nat) : Array Value := Bits.row 128 (fun i => decide (i < k) && (a + b).testBit i)
theorem Bits.summed_zero (a b : Nat) : Bits.summed a b 0 = Bits.num 0 := by
  unfold Bits.summed Bits.num
  apply Bits.row_ext
  intro i _
  simp
theorem Bits.summed_step (a b k : Nat) (v : Bool) (hv : v = (a + b).testBit k) : (Bits.summed a b k).setIfInBounds k (.bool v) = Bits.summed a b (k + 1) := by
  unfold Bits.summed
  rw [Bits.row_set]
  apply Bits.row_ext
  intro i _
  by_cases h2 : i = k
  · subst h2
    simp [hv]
  · have e1 : decide (i < k + 1) = decide (i < k) := by rw [Bool.eq_iff_iff]; simp; omega
    simp [h2, e1]
theorem Bits.summed_end (a b : Nat) : Bits.summed a b 128 = Bits.num (a + b) := by
  unfold Bits.summed Bits.num
  apply Bits.row_ext
  intro i hi
  simp [hi]

def Bits.sum (a b : Nat) : Nat := if a + b < 2 ^ 128 then a + b else 0
def Bits.fits (a b : Nat) : Bool := decide (a + b < 2 ^ 128)
def Bits.small (x : Nat) : Int := if x < 9223372036854775808 then x else 9223372036854775807

set_option maxRecDepth 100000 in
theorem ref_numAdd (a b : Nat) (ha : a < 2 ^ 128) (hb : b < 2 ^ 128) (w : World) :
    Calls Tryz.prog 91 #[.agg (Bits.num a), .agg (Bits.num b)] w fun e w' => e = .returned (.tuple #[.agg (Bits.num (Bits.sum a b)), .bool (Bits.fits a b)]) ∧ Below w.heap.size w w' := by
  have HE := Lib.hid (Bits.summed_end a b)
  have HZ := Lib.hid (Bits.summed_zero a b)
  have HC := Lib.hid (Bits.carry_end a b ha hb)
  clear ha hb
  go_enter Tryz.func91, Tryz.ntmps91
  go_wp2_with (first | ((with_reducible refine wpList_alloc_as rfl _ rfl _ (numZero _) ?_); (try simp only [World.size_alloc])))
  go_loopw [7, 8] (fun c i wr => ∃ k : Nat, k ≤ 128 ∧ i = .int .i64 k ∧ c = .int .i64 (Bits.carry a b k) ∧ wr = (((w.alloc (.cells (Bits.num a) 130)).alloc (.cells (Bits.num b) 130)).alloc (.cells (Bits.num 0) 130)).alloc (.cells (Bits.summed a b k) 130)) (fun _ i _ => 128 - (intOf i).toNat)
  case atStart => exact ⟨0, by omega, rfl, int_eq (by simp [Bits.carry, Nat.mod_one]), by rw [HZ.out]⟩
  case round =>
    obtain ⟨k, hk, rfl, rfl, rfl⟩ := hrel
    by_cases hlt : k < 128
    · have g1 := Bits.num_get a k hlt
      have g2 := Bits.num_get b k hlt
      obtain ⟨x3, g3⟩ : ∃ v, (Bits.summed a b k)[k]? = some v := ⟨_, Bits.row_get _ _ _ (by omega)⟩
      have hs := Bits.carry_step a b k
      have hc := Bits.carry_le a b k
      have HS := Lib.hid (Bits.summed_step a b k)
      obtain ⟨c, hcc⟩ : ∃ c, c = Bits.carry a b k := ⟨_, rfl⟩
      rw [← hcc] at hs hc ⊢
      clear hcc
      cases h1 : a.testBit k <;> cases h2 : b.testBit k
      all_goals
        rw [h1, h2] at hs
        rw [h1] at g1
        rw [h2] at g2
        simp only [Bool.toNat_false, Bool.toNat_true, Nat.add_zero] at hs
        have HS1 := Lib.hid hs.1
        have HS2 := Lib.hid hs.2
        clear hs h1 h2
        go_wp2
        go_roundw
        case rel => exact ⟨k + 1, by omega, by go_num, int_eq (by rw [HS1.out]; omega), by rw [HS.out _ (by rw [HS2.out, Bool.eq_iff_iff]; simp; omega)]⟩
        case measure => simp [intOf]; omega
    · obtain rfl : k = 128 := by omega
      have e := HE.out
      rw [e]
      have hc := Bits.carry_le a b 128
      have hce := HC.out
      generalize Bits.carry a b 128 = c at *
      by_cases hf : a + b < 2 ^ 128
      · have hc0 : c = 0 := hce.2 hf
        subst hc0
        have HF := Lib.hid hf
        clear hce hf
        go_wp2_with (first | ((with_reducible refine wpList_load_rowAs rfl 130 _ rfl ((w.heap.size + 3)) ?_ 130 (Bits.num (a + b)) (0, 0) _ 128 ?_ Tryz.underlying130 rfl numInfo (Bits.num_size _) ?_); exact rfl; exact (by first | (with_reducible exact heap_1_0 _ _) | (with_reducible exact heap_2_0 _ _ _) | (with_reducible exact heap_2_1 _ _ _) | (with_reducible exact heap_3_0 _ _ _ _) | (with_reducible exact heap_3_1 _ _ _ _) | (with_reducible exact heap_3_2 _ _ _ _) | (with_reducible exact heap_4_0 _ _ _ _ _) | (with_reducible exact heap_4_1 _ _ _ _ _) | (with_reducible exact heap_4_2 _ _ _ _ _) | (with_reducible exact heap_4_3 _ _ _ _ _) | (with_reducible exact heap_5_0 _ _ _ _ _ _) | (with_reducible exact heap_5_1 _ _ _ _ _ _) | (with_reducible exact heap_5_2 _ _ _ _ _ _) | (with_reducible exact heap_5_3 _ _ _ _ _ _) | (with_reducible exact heap_5_4 _ _ _ _ _ _) | (with_reducible exact heap_6_0 _ _ _ _ _ _ _) | (with_reducible exact heap_6_1 _ _ _ _ _ _ _) | (with_reducible exact heap_6_2 _ _ _ _ _ _ _) | (with_reducible exact heap_6_3 _ _ _ _ _ _ _) | (with_reducible exact heap_6_4 _ _ _ _ _ _ _) | (with_reducible exact heap_6_5 _ _ _ _ _ _ _) | simp only [heap_alloc_past, heap_alloc_at, World.size_alloc, Nat.add_assoc, Nat.reduceAdd, Nat.lt_add_right_iff_pos, Nat.add_lt_add_iff_left, Nat.reduceLT, Nat.zero_lt_succ, Nat.lt_add_one])) | ((with_reducible refine wpList_store_rowAs rfl 130 _ _ rfl ((w.heap.size + 2)) (Bits.num (a + b)) ?_ ?_ 130 (Bits.num 0) 128 ?_ numInfo (Bits.num_size _) (Bits.num_size _) (num_oneCell _) ?_); exact rfl; exact rfl; exact (by first | (with_reducible exact heap_1_0 _ _) | (with_reducible exact heap_2_0 _ _ _) | (with_reducible exact heap_2_1 _ _ _) | (with_reducible exact heap_3_0 _ _ _ _) | (with_reducible exact heap_3_1 _ _ _ _) | (with_reducible exact heap_3_2 _ _ _ _) | (with_reducible exact heap_4_0 _ _ _ _ _) | (with_reducible exact heap_4_1 _ _ _ _ _) | (with_reducible exact heap_4_2 _ _ _ _ _) | (with_reducible exact heap_4_3 _ _ _ _ _) | (with_reducible exact heap_5_0 _ _ _ _ _ _) | (with_reducible exact heap_5_1 _ _ _ _ _ _) | (with_reducible exact heap_5_2 _ _ _ _ _ _) | (with_reducible exact heap_5_3 _ _ _ _ _ _) | (with_reducible exact heap_5_4 _ _ _ _ _ _) | (with_reducible exact heap_6_0 _ _ _ _ _ _ _) | (with_reducible exact heap_6_1 _ _ _ _ _ _ _) | (with_reducible exact heap_6_2 _ _ _ _ _ _ _) | (with_reducible exact heap_6_3 _ _ _ _ _ _ _) | (with_reducible exact heap_6_4 _ _ _ _ _ _ _) | (with_reducible exact heap_6_5 _ _ _ _ _ _ _) | simp only [heap_alloc_past, heap_alloc_at, World.size_alloc, Nat.add_assoc, Nat.reduceAdd, Nat.lt_add_right_iff_pos, Nat.add_lt_add_iff_left, Nat.reduceLT, Nat.zero_lt_succ, Nat.lt_add_one]); (first | rw [row_1_0] | rw [row_2_0] | rw [row_2_1] | rw [row_3_0] | rw [row_3_1] | rw [row_3_2] | rw [row_4_0] | rw [row_4_1] | rw [row_4_2] | rw [row_4_3] | rw [row_5_0] | rw [row_5_1] | rw [row_5_2] | rw [row_5_3] | rw [row_5_4] | rw [row_6_0] | rw [row_6_1] | rw [row_6_2] | rw [row_6_3] | rw [row_6_4] | rw [row_6_5] | simp only [setRow_alloc_past, setRow_alloc_at, World.size_alloc, Nat.add_assoc, Nat.reduceAdd, Nat.lt_add_right_iff_pos, Nat.add_lt_add_iff_left, Nat.reduceLT, Nat.zero_lt_succ, Nat.lt_add_one])))
        refine bodyPost_ret (v := .tuple #[.agg (Bits.num (a + b)), .bool true]) ?_ rfl ⟨?_, below4 _ _ _ _ _⟩
        · exact results_row_tmp rfl _ _ (w.heap.size + 2) 130 (Bits.num (a + b)) (0, 0) _ 128 (.bool true) rfl rfl (by first | (with_reducible exact heap_1_0 _ _) | (with_reducible exact heap_2_0 _ _ _) | (with_reducible exact heap_2_1 _ _ _) | (with_reducible exact heap_3_0 _ _ _ _) | (with_reducible exact heap_3_1 _ _ _ _) | (with_reducible exact heap_3_2 _ _ _ _) | (with_reducible exact heap_4_0 _ _ _ _ _) | (with_reducible exact heap_4_1 _ _ _ _ _) | (with_reducible exact heap_4_2 _ _ _ _ _) | (with_reducible exact heap_4_3 _ _ _ _ _) | (with_reducible exact heap_5_0 _ _ _ _ _ _) | (with_reducible exact heap_5_1 _ _ _ _ _ _) | (with_reducible exact heap_5_2 _ _ _ _ _ _) | (with_reducible exact heap_5_3 _ _ _ _ _ _) | (with_reducible exact heap_5_4 _ _ _ _ _ _) | (with_reducible exact heap_6_0 _ _ _ _ _ _ _) | (with_reducible exact heap_6_1 _ _ _ _ _ _ _) | (with_reducible exact heap_6_2 _ _ _ _ _ _ _) | (with_reducible exact heap_6_3 _ _ _ _ _ _ _) | (with_reducible exact heap_6_4 _ _ _ _ _ _ _) | (with_reducible exact heap_6_5 _ _ _ _ _ _ _) | simp only [heap_alloc_past, heap_alloc_at, World.size_alloc, Nat.add_assoc, Nat.reduceAdd, Nat.lt_add_right_iff_pos, Nat.add_lt_add_iff_left, Nat.reduceLT, Nat.zero_lt_succ, Nat.lt_add_one]) Tryz.underlying130 rfl numInfo (Bits.num_size _)
        · exact ret_two (by unfold Bits.sum; rw [if_pos HF.out]) (by unfold Bits.fits; rw [decide_eq_true HF.out])
      · have hc1 : c = 1 := by have := mt hce.1 hf; omega
        subst hc1
        have HF := Lib.hid hf
        clear hce hf
        go_wp2_with (first | (with_reducible refine wpList_build_as rfl _ rfl _ numBuilt ?_) | ((with_reducible refine wpList_store_rowAs rfl 130 _ _ rfl ((w.heap.size + 2)) (Bits.num 0) ?_ ?_ 130 (Bits.num 0) 128 ?_ numInfo (Bits.num_size _) (Bits.num_size _) (num_oneCell _) ?_); exact rfl; exact rfl; exact (by first | (with_reducible exact heap_1_0 _ _) | (with_reducible exact heap_2_0 _ _ _) | (with_reducible exact heap_2_1 _ _ _) | (with_reducible exact heap_3_0 _ _ _ _) | (with_reducible exact heap_3_1 _ _ _ _) | (with_reducible exact heap_3_2 _ _ _ _) | (with_reducible exact heap_4_0 _ _ _ _ _) | (with_reducible exact heap_4_1 _ _ _ _ _) | (with_reducible exact heap_4_2 _ _ _ _ _) | (with_reducible exact heap_4_3 _ _ _ _ _) | (with_reducible exact heap_5_0 _ _ _ _ _ _) | (with_reducible exact heap_5_1 _ _ _ _ _ _) | (with_reducible exact heap_5_2 _ _ _ _ _ _) | (with_reducible exact heap_5_3 _ _ _ _ _ _) | (with_reducible exact heap_5_4 _ _ _ _ _ _) | (with_reducible exact heap_6_0 _ _ _ _ _ _ _) | (with_reducible exact heap_6_1 _ _ _ _ _ _ _) | (with_reducible exact heap_6_2 _ _ _ _ _ _ _) | (with_reducible exact heap_6_3 _ _ _ _ _ _ _) | (with_reducible exact heap_6_4 _ _ _ _ _ _ _) | (with_reducible exact heap_6_5 _ _ _ _ _ _ _) | simp only [heap_alloc_past, heap_alloc_at, World.size_alloc, Nat.add_assoc, Nat.reduceAdd, Nat.lt_add_right_iff_pos, Nat.add_lt_add_iff_left, Nat.reduceLT, Nat.zero_lt_succ, Nat.lt_add_one]); (first | rw [row_1_0] | rw [row_2_0] | rw [row_2_1] | rw [row_3_0] | rw [row_3_1] | rw [row_3_2] | rw [row_4_0] | rw [row_4_1] | rw [row_4_2] | rw [row_4_3] | rw [row_5_0] | rw [row_5_1] | rw [row_5_2] | rw [row_5_3] | rw [row_5_4] | rw [row_6_0] | rw [row_6_1] | rw [row_6_2] | rw [row_6_3] | rw [row_6_4] | rw [row_6_5] | simp only [setRow_alloc_past, setRow_alloc_at, World.size_alloc, Nat.add_assoc, Nat.reduceAdd, Nat.lt_add_right_iff_pos, Nat.add_lt_add_iff_left, Nat.reduceLT, Nat.zero_lt_succ, Nat.lt_add_one])))
        refine bodyPost_ret (v := .tuple #[.agg (Bits.num 0), .bool false]) ?_ rfl ⟨?_, below4 _ _ _ _ _⟩
        · exact results_row_tmp rfl _ _ (w.heap.size + 2) 130 (Bits.num 0) (0, 0) _ 128 (.bool false) rfl rfl (by first | (with_reducible exact heap_1_0 _ _) | (with_reducible exact heap_2_0 _ _ _) | (with_reducible exact heap_2_1 _ _ _) | (with_reducible exact heap_3_0 _ _ _ _) | (with_reducible exact heap_3_1 _ _ _ _) | (with_reducible exact heap_3_2 _ _ _ _) | (with_reducible exact heap_4_0 _ _ _ _ _) | (with_reducible exact heap_4_1 _ _ _ _ _) | (with_reducible exact heap_4_2 _ _ _ _ _) | (with_reducible exact heap_4_3 _ _ _ _ _) | (with_reducible exact heap_5_0 _ _ _ _ _ _) | (with_reducible exact heap_5_1 _ _ _ _ _ _) | (with_reducible exact heap_5_2 _ _ _ _ _ _) | (with_reducible exact heap_5_3 _ _ _ _ _ _) | (with_reducible exact heap_5_4 _ _ _ _ _ _) | (with_reducible exact heap_6_0 _ _ _ _ _ _ _) | (with_reducible exact heap_6_1 _ _ _ _ _ _ _) | (with_reducible exact heap_6_2 _ _ _ _ _ _ _) | (with_reducible exact heap_6_3 _ _ _ _ _ _ _) | (with_reducible exact heap_6_4 _ _ _ _ _ _ _) | (with_reducible exact heap_6_5 _ _ _ _ _ _ _) | simp only [heap_alloc_past, heap_alloc_at, World.size_alloc, Nat.add_assoc, Nat.reduceAdd, Nat.lt_add_right_iff_pos, Nat.add_lt_add_iff_left, Nat.reduceLT, Nat.zero_lt_succ, Nat.lt_add_one]) Tryz.underlying130 rfl numInfo (Bits.num_size _)
        · exact ret_two (by unfold Bits.sum; rw [if_neg HF.out]) (by unfold Bits.fits; rw [decide_eq_false HF.out])

theorem Bits.small_none (x k : Nat) (h : x / 2 ^ k = 0) : x < 2 ^ k := Nat.lt_of_div_eq_zero (Nat.two_pow_pos _) h

end Go.Proofs.YtldhbgefpfmkmaaGreat
