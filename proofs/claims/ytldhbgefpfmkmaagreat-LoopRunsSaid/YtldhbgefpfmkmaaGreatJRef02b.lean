/- Layer 2's reference: products, and which number is greater. -/
import Derived.Test.YtldhbgefpfmkmaaGreatJRef02
import Derived.Deep.QuietTactic
import Derived.BigQuiet
namespace Go.Proofs.YtldhbgefpfmkmaaGreat
open Go.ChangeShapes Go.WideShapes Go.ChangeAt Go.RowKit

/-- What the reference's product has in memory. -/
structure Bits.Mem (w wr : World) (X o x : Nat) : Prop where
  below : Below w.heap.size w wr
  res : wr.heap[w.heap.size]? = some (.cells (Bits.num 0) 130 (0, 0))
  out : wr.heap[w.heap.size + 1]? = some (.cells (Bits.num o) 130 (0, 0))
  big : w.heap.size + 1 < X
  ex : wr.heap[X]? = some (.cells (Bits.num x) 130 (0, 0))

theorem Bits.Mem.call {w wr w' : World} {X o x : Nat} (h : Bits.Mem w wr X o x) (hb : Below wr.heap.size wr w') : Bits.Mem w w' X o x := by
  obtain ⟨h1, h2, h3, h4, h5⟩ := h
  exact ⟨h1.trans (hb.mono h1.size), (hb.block _ (lt_of_heap h2)).trans h2, (hb.block _ (lt_of_heap h3)).trans h3, h4, (hb.block _ (lt_of_heap h5)).trans h5⟩

theorem Bits.Mem.setOut {w wr : World} {X o x : Nat} (h : Bits.Mem w wr X o x) (y : Nat) : Bits.Mem w (wr.setRow (w.heap.size + 1) (Bits.num y)) X y x := by
  obtain ⟨h1, h2, h3, h4, h5⟩ := h
  exact ⟨below_setRow h1 (by omega) _, (setRow_other _ _ _ _ (by omega)).trans h2, setRow_heap _ _ _ _ _ _ h3, h4, (setRow_other _ _ _ _ (by omega)).trans h5⟩

theorem Bits.Mem.setX {w wr : World} {X o x : Nat} (h : Bits.Mem w wr X o x) (y : Nat) : Bits.Mem w (wr.setRow X (Bits.num y)) X o y := by
  obtain ⟨h1, h2, h3, h4, h5⟩ := h
  exact ⟨below_setRow h1 (by omega) _, (setRow_other _ _ _ _ (by omega)).trans h2, (setRow_other _ _ _ _ (by omega)).trans h3, h4, setRow_heap _ _ _ _ _ _ h5⟩

theorem Bits.mul_step (a b k : Nat) (ha : a < 18446744073709551616) (hk : k < 64) : a * 2 ^ (k + 1) < 2 ^ 128 ∧ a * (b % 2 ^ (k + 1)) < 2 ^ 128 ∧ a * (b % 2 ^ k) < 2 ^ 128 ∧ a * 2 ^ k < 2 ^ 128 ∧
    a * (b % 2 ^ (k + 1)) = a * (b % 2 ^ k) + (b.testBit k).toNat * (a * 2 ^ k) ∧ 2 * (a * 2 ^ k) = a * 2 ^ (k + 1) := by
  have hp : 2 ^ (k + 1) ≤ 2 ^ 64 := Nat.pow_le_pow_right (by omega) (by omega)
  have hp' : 2 ^ k ≤ 2 ^ 64 := Nat.pow_le_pow_right (by omega) (by omega)
  have h1 : ∀ z, z ≤ 2 ^ 64 → a * z < 2 ^ 128 := fun z hz => by
    have : a * z ≤ a * 2 ^ 64 := Nat.mul_le_mul_left _ hz
    omega
  have m1 := Nat.mod_lt b (Nat.two_pow_pos (k + 1))
  have m2 := Nat.mod_lt b (Nat.two_pow_pos k)
  refine ⟨h1 _ hp, h1 _ (by omega), h1 _ (by omega), h1 _ hp', ?_, ?_⟩
  · rw [Nat.mod_pow_succ, Nat.toNat_testBit, Nat.mul_add]
    congr 1
    rw [Nat.mul_left_comm, Nat.mul_comm (2 ^ k), Nat.mul_left_comm, Nat.mul_assoc]
  · rw [Nat.pow_succ, Nat.mul_comm 2, Nat.mul_assoc]

set_option maxHeartbeats 1000000 in
set_option maxRecDepth 100000 in
theorem ref_numMul (a b : Nat) (ha : a < 18446744073709551616) (hb : b < 18446744073709551616) (w : World) :
    Calls Tryz.prog 87 #[.int .u64 a, .int .u64 b] w fun e w' => e = .returned (.agg (Bits.num (a * b))) ∧ Below w.heap.size w w' := by
  have HA := Lib.hid ha
  have hof := ref_of 0 a (by omega) ha
  rw [Nat.zero_mul, Nat.zero_add] at hof
  go_enter Tryz.func87, Tryz.ntmps87
  go_wp2_with (first | ((with_reducible refine wpList_alloc_as rfl _ rfl _ (numZero _) ?_); (try simp only [World.size_alloc])) | (with_reducible refine wpList_build_as rfl _ rfl _ numBuilt ?_) | ((with_reducible refine wpList_store_rowAs rfl 130 _ _ rfl ((w.heap.size + 1)) (Bits.num 0) ?_ ?_ 130 (Bits.num 0) 128 ?_ numInfo (Bits.num_size _) (Bits.num_size _) (num_oneCell _) ?_); exact rfl; exact rfl; exact (by first | (with_reducible exact heap_1_0 _ _) | (with_reducible exact heap_2_0 _ _ _) | (with_reducible exact heap_2_1 _ _ _) | (with_reducible exact heap_3_0 _ _ _ _) | (with_reducible exact heap_3_1 _ _ _ _) | (with_reducible exact heap_3_2 _ _ _ _) | (with_reducible exact heap_4_0 _ _ _ _ _) | (with_reducible exact heap_4_1 _ _ _ _ _) | (with_reducible exact heap_4_2 _ _ _ _ _) | (with_reducible exact heap_4_3 _ _ _ _ _) | (with_reducible exact heap_5_0 _ _ _ _ _ _) | (with_reducible exact heap_5_1 _ _ _ _ _ _) | (with_reducible exact heap_5_2 _ _ _ _ _ _) | (with_reducible exact heap_5_3 _ _ _ _ _ _) | (with_reducible exact heap_5_4 _ _ _ _ _ _) | (with_reducible exact heap_6_0 _ _ _ _ _ _ _) | (with_reducible exact heap_6_1 _ _ _ _ _ _ _) | (with_reducible exact heap_6_2 _ _ _ _ _ _ _) | (with_reducible exact heap_6_3 _ _ _ _ _ _ _) | (with_reducible exact heap_6_4 _ _ _ _ _ _ _) | (with_reducible exact heap_6_5 _ _ _ _ _ _ _) | simp only [heap_alloc_past, heap_alloc_at, World.size_alloc, Nat.add_assoc, Nat.reduceAdd, Nat.lt_add_right_iff_pos, Nat.add_lt_add_iff_left, Nat.reduceLT, Nat.zero_lt_succ, Nat.lt_add_one]); (first | rw [row_1_0] | rw [row_2_0] | rw [row_2_1] | rw [row_3_0] | rw [row_3_1] | rw [row_3_2] | rw [row_4_0] | rw [row_4_1] | rw [row_4_2] | rw [row_4_3] | rw [row_5_0] | rw [row_5_1] | rw [row_5_2] | rw [row_5_3] | rw [row_5_4] | rw [row_6_0] | rw [row_6_1] | rw [row_6_2] | rw [row_6_3] | rw [row_6_4] | rw [row_6_5] | simp only [setRow_alloc_past, setRow_alloc_at, World.size_alloc, Nat.add_assoc, Nat.reduceAdd, Nat.lt_add_right_iff_pos, Nat.add_lt_add_iff_left, Nat.reduceLT, Nat.zero_lt_succ, Nat.lt_add_one])))
  refine (hof _).mono ?_
  rintro e w1 ⟨rfl, hb1⟩
  have hM0 : Bits.Mem w (w1.alloc (.cells (Bits.num 0) 130)) w1.heap.size 0 0 := by
    have hb1' := hb1
    simp only [World.size_alloc] at hb1'
    have hsz := hb1.size
    simp only [World.size_alloc] at hsz
    refine ⟨((below2 w _ _).trans (hb1'.mono (by omega))).alloc (by omega) _, ?_, ?_, by omega, heap_alloc_at _ _ _ rfl⟩
    · rw [heap_alloc_past _ _ _ (by omega), hb1'.block _ (by omega)]; exact (by first | (with_reducible exact heap_1_0 _ _) | (with_reducible exact heap_2_0 _ _ _) | (with_reducible exact heap_2_1 _ _ _) | (with_reducible exact heap_3_0 _ _ _ _) | (with_reducible exact heap_3_1 _ _ _ _) | (with_reducible exact heap_3_2 _ _ _ _) | (with_reducible exact heap_4_0 _ _ _ _ _) | (with_reducible exact heap_4_1 _ _ _ _ _) | (with_reducible exact heap_4_2 _ _ _ _ _) | (with_reducible exact heap_4_3 _ _ _ _ _) | (with_reducible exact heap_5_0 _ _ _ _ _ _) | (with_reducible exact heap_5_1 _ _ _ _ _ _) | (with_reducible exact heap_5_2 _ _ _ _ _ _) | (with_reducible exact heap_5_3 _ _ _ _ _ _) | (with_reducible exact heap_5_4 _ _ _ _ _ _) | (with_reducible exact heap_6_0 _ _ _ _ _ _ _) | (with_reducible exact heap_6_1 _ _ _ _ _ _ _) | (with_reducible exact heap_6_2 _ _ _ _ _ _ _) | (with_reducible exact heap_6_3 _ _ _ _ _ _ _) | (with_reducible exact heap_6_4 _ _ _ _ _ _ _) | (with_reducible exact heap_6_5 _ _ _ _ _ _ _) | simp only [heap_alloc_past, heap_alloc_at, World.size_alloc, Nat.add_assoc, Nat.reduceAdd, Nat.lt_add_right_iff_pos, Nat.add_lt_add_iff_left, Nat.reduceLT, Nat.zero_lt_succ, Nat.lt_add_one])
    · rw [heap_alloc_past _ _ _ (by omega), hb1'.block _ (by omega)]; exact (by first | (with_reducible exact heap_1_0 _ _) | (with_reducible exact heap_2_0 _ _ _) | (with_reducible exact heap_2_1 _ _ _) | (with_reducible exact heap_3_0 _ _ _ _) | (with_reducible exact heap_3_1 _ _ _ _) | (with_reducible exact heap_3_2 _ _ _ _) | (with_reducible exact heap_4_0 _ _ _ _ _) | (with_reducible exact heap_4_1 _ _ _ _ _) | (with_reducible exact heap_4_2 _ _ _ _ _) | (with_reducible exact heap_4_3 _ _ _ _ _) | (with_reducible exact heap_5_0 _ _ _ _ _ _) | (with_reducible exact heap_5_1 _ _ _ _ _ _) | (with_reducible exact heap_5_2 _ _ _ _ _ _) | (with_reducible exact heap_5_3 _ _ _ _ _ _) | (with_reducible exact heap_5_4 _ _ _ _ _ _) | (with_reducible exact heap_6_0 _ _ _ _ _ _ _) | (with_reducible exact heap_6_1 _ _ _ _ _ _ _) | (with_reducible exact heap_6_2 _ _ _ _ _ _ _) | (with_reducible exact heap_6_3 _ _ _ _ _ _ _) | (with_reducible exact heap_6_4 _ _ _ _ _ _ _) | (with_reducible exact heap_6_5 _ _ _ _ _ _ _) | simp only [heap_alloc_past, heap_alloc_at, World.size_alloc, Nat.add_assoc, Nat.reduceAdd, Nat.lt_add_right_iff_pos, Nat.add_lt_add_iff_left, Nat.reduceLT, Nat.zero_lt_succ, Nat.lt_add_one])
  have HM0 := Lib.hid hM0
  have HB1 := Lib.hid hb1
  clear hM0 hb1
  go_wp2_with (first | (with_reducible refine wpList_alloc_as rfl _ rfl _ (numZero _) ?_) | ((with_reducible refine wpList_store_rowAs rfl 130 _ _ rfl (w1.heap.size) (Bits.num a) ?_ ?_ 130 (Bits.num 0) 128 ?_ numInfo (Bits.num_size _) (Bits.num_size _) (num_oneCell _) ?_); exact rfl; exact rfl; exact (HM0.out.ex)))
  have HM1 := Lib.hid (HM0.out.setX a)
  generalize ((w1.alloc (.cells (Bits.num 0) 130)).setRow w1.heap.size (Bits.num a)) = w2 at *
  obtain ⟨X, hX⟩ : ∃ X, X = w1.heap.size := ⟨_, rfl⟩
  rw [← hX] at HM1 ⊢
  clear hX HM0 HB1 hof
  go_loopw [7] (fun i wr => ∃ k : Nat, k ≤ 64 ∧ i = .int .i64 k ∧ Bits.Mem w wr X (a * (b % 2 ^ k)) (a * 2 ^ k)) (fun i _ => 64 - (intOf i).toNat)
  case atStart => exact ⟨0, by omega, rfl, by rw [Nat.pow_zero, Nat.mod_one, Nat.mul_zero, Nat.mul_one]; exact HM1.out⟩
  case round =>
    obtain ⟨k, hk, rfl, hM⟩ := hrel
    have HM := Lib.hid hM
    clear hM
    by_cases hlt : k < 64
    · have hS := Bits.mul_step a b k HA.out hlt
      have b1 := Bits.bit_eq b k
      have n1 : 0 ≤ (b : Int) / 2 ^ k := Int.ediv_nonneg (by omega) (Int.le_of_lt (Int.pow_pos (by omega)))
      cases hbit : b.testBit k
      · rw [hbit] at b1 hS
        simp only [Bool.toNat_false, Nat.zero_mul, Nat.add_zero] at hS
        have HS := Lib.hid hS
        clear hS hbit
        go_wp2_with (first | ((with_reducible refine wpList_load_rowAs rfl 130 _ rfl (X) ?_ 130 (Bits.num (a * 2 ^ k)) (0, 0) _ 128 ?_ Tryz.underlying130 rfl numInfo (Bits.num_size _) ?_); exact rfl; exact (HM.out.ex)))
        refine (ref_double _ _).mono ?_
        rintro e w3 ⟨rfl, hb3⟩
        have HM3 := Lib.hid (HM.out.call hb3)
        clear hb3
        go_wp2_with (first | ((with_reducible refine wpList_store_rowAs rfl 130 _ _ rfl (X) (Bits.num (2 * (a * 2 ^ k))) ?_ ?_ 130 (Bits.num (a * 2 ^ k)) 128 ?_ numInfo (Bits.num_size _) (Bits.num_size _) (num_oneCell _) ?_); exact rfl; exact rfl; exact (HM3.out.ex)))
        have HM4 := Lib.hid (HM3.out.setX (2 * (a * 2 ^ k)))
        generalize (w3.setRow X (Bits.num (2 * (a * 2 ^ k)))) = w4 at *
        go_wp2
        go_roundw
        case rel => exact ⟨k + 1, by omega, by go_num, by rw [HS.out.2.2.2.2.1, ← HS.out.2.2.2.2.2]; exact HM4.out⟩
        case measure => simp [intOf]; omega
      · rw [hbit] at b1 hS
        simp only [Bool.toNat_true, Nat.one_mul] at hS
        have HS := Lib.hid hS
        clear hS hbit
        go_wp2_with (first | ((with_reducible refine wpList_load_rowAs rfl 130 _ rfl (X) ?_ 130 (Bits.num (a * 2 ^ k)) (0, 0) _ 128 ?_ Tryz.underlying130 rfl numInfo (Bits.num_size _) ?_); exact rfl; exact (HM.out.ex)) | ((with_reducible refine wpList_load_rowAs rfl 130 _ rfl ((w.heap.size + 1)) ?_ 130 (Bits.num (a * (b % 2 ^ k))) (0, 0) _ 128 ?_ Tryz.underlying130 rfl numInfo (Bits.num_size _) ?_); exact rfl; exact (HM.out.out)))
        refine (ref_numAdd _ _ HS.out.2.2.1 HS.out.2.2.2.1 _).mono ?_
        rintro e w3 ⟨rfl, hb3⟩
        have HM3 := Lib.hid (HM.out.call hb3)
        have hsum : Bits.sum (a * (b % 2 ^ k)) (a * 2 ^ k) = a * (b % 2 ^ (k + 1)) := by
          unfold Bits.sum
          rw [← HS.out.2.2.2.2.1, if_pos HS.out.2.1]
        rw [hsum]
        clear hb3 hsum
        have HM4 := Lib.hid (HM3.out.setOut (a * (b % 2 ^ (k + 1))))
        go_wp2_with (first | ((with_reducible refine wpList_store_rowAs rfl 130 _ _ rfl ((w.heap.size + 1)) (Bits.num (a * (b % 2 ^ (k + 1)))) ?_ ?_ 130 (Bits.num (a * (b % 2 ^ k))) 128 ?_ numInfo (Bits.num_size _) (Bits.num_size _) (num_oneCell _) ?_); exact rfl; exact rfl; exact (HM3.out.out)) | ((with_reducible refine wpList_load_rowAs rfl 130 _ rfl (X) ?_ 130 (Bits.num (a * 2 ^ k)) (0, 0) _ 128 ?_ Tryz.underlying130 rfl numInfo (Bits.num_size _) ?_); exact rfl; exact (HM4.out.ex)))
        generalize (w3.setRow (w.heap.size + 1) (Bits.num (a * (b % 2 ^ (k + 1))))) = w4 at *
        refine (ref_double _ _).mono ?_
        rintro e w5 ⟨rfl, hb5⟩
        have HM5 := Lib.hid (HM4.out.call hb5)
        clear hb5
        go_wp2_with (first | ((with_reducible refine wpList_store_rowAs rfl 130 _ _ rfl (X) (Bits.num (2 * (a * 2 ^ k))) ?_ ?_ 130 (Bits.num (a * 2 ^ k)) 128 ?_ numInfo (Bits.num_size _) (Bits.num_size _) (num_oneCell _) ?_); exact rfl; exact rfl; exact (HM5.out.ex)))
        have HM6 := Lib.hid (HM5.out.setX (2 * (a * 2 ^ k)))
        generalize (w5.setRow X (Bits.num (2 * (a * 2 ^ k)))) = w6 at *
        go_wp2
        go_roundw
        case rel => exact ⟨k + 1, by omega, by go_num, by rw [← HS.out.2.2.2.2.2]; exact HM6.out⟩
        case measure => simp [intOf]; omega
    · obtain rfl : k = 64 := by omega
      have hbm : b % 2 ^ 64 = b := Nat.mod_eq_of_lt (by omega)
      rw [hbm] at HM
      clear hbm
      go_wp2_with (first | ((with_reducible refine wpList_load_rowAs rfl 130 _ rfl ((w.heap.size + 1)) ?_ 130 (Bits.num (a * b)) (0, 0) _ 128 ?_ Tryz.underlying130 rfl numInfo (Bits.num_size _) ?_); exact rfl; exact (HM.out.out)) | ((with_reducible refine wpList_store_rowAs rfl 130 _ _ rfl (w.heap.size) (Bits.num (a * b)) ?_ ?_ 130 (Bits.num 0) 128 ?_ numInfo (Bits.num_size _) (Bits.num_size _) (num_oneCell _) ?_); exact rfl; exact rfl; exact (HM.out.res)))
      refine bodyPost_ret (v := .agg (Bits.num (a * b))) ?_ rfl ⟨rfl, below_setRow HM.out.below (Nat.le_refl _) _⟩
      exact results_cell_row rfl _ _ w.heap.size 130 (Bits.num (a * b)) (0, 0) _ rfl (setRow_heap _ _ _ _ _ _ HM.out.res) Tryz.underlying130 rfl (by rw [Bits.num_size]; exact numInfo)

def Bits.cmp (a b : Nat) : Int := if a < b then -1 else if b < a then 1 else 0

theorem Bits.cmp_high (a b i : Nat) (h : a / 2 ^ (i + 1) = b / 2 ^ (i + 1)) :
    (a.testBit i = b.testBit i → a / 2 ^ i = b / 2 ^ i) ∧ (a.testBit i = true → b.testBit i = false → b < a) ∧ (a.testBit i = false → b.testBit i = true → a < b) := by
  have h1 := Bits.div_step a i
  have h2 := Bits.div_step b i
  have hp := Nat.two_pow_pos i
  refine ⟨fun e => by rw [h1, h2, h, e], fun e1 e2 => ?_, fun e1 e2 => ?_⟩
  · rw [e1] at h1; rw [e2] at h2
    have : b / 2 ^ i < a / 2 ^ i := by rw [h1, h2, h]; simp
    exact Nat.lt_of_not_le fun hle => by have := Nat.div_le_div_right (c := 2 ^ i) hle; omega
  · rw [e1] at h1; rw [e2] at h2
    have : a / 2 ^ i < b / 2 ^ i := by rw [h1, h2, h]; simp
    exact Nat.lt_of_not_le fun hle => by have := Nat.div_le_div_right (c := 2 ^ i) hle; omega

set_option maxRecDepth 100000 in
theorem ref_numCmp (a b : Nat) (ha : a < 2 ^ 128) (hb : b < 2 ^ 128) (w : World) :
    Calls Tryz.prog 88 #[.agg (Bits.num a), .agg (Bits.num b)] w fun e w' => e = .returned (.int .i64 (Bits.cmp a b)) ∧ Below w.heap.size w w' := by
  have HA := Lib.hid ha
  have HB := Lib.hid hb
  clear ha hb
  go_enter Tryz.func88, Tryz.ntmps88
  go_wp2
  obtain ⟨B, hB⟩ : ∃ B, B = w.heap.size := ⟨_, rfl⟩
  have h0 : Below B w ((w.alloc (.cells (Bits.num a) 130)).alloc (.cells (Bits.num b) 130)) := by rw [hB]; exact below2 _ _ _
  have h1 : ((w.alloc (.cells (Bits.num a) 130)).alloc (.cells (Bits.num b) 130)).heap[B]? = some (.cells (Bits.num a) 130 (0, 0)) := by rw [hB]; exact (by first | (with_reducible exact heap_1_0 _ _) | (with_reducible exact heap_2_0 _ _ _) | (with_reducible exact heap_2_1 _ _ _) | (with_reducible exact heap_3_0 _ _ _ _) | (with_reducible exact heap_3_1 _ _ _ _) | (with_reducible exact heap_3_2 _ _ _ _) | (with_reducible exact heap_4_0 _ _ _ _ _) | (with_reducible exact heap_4_1 _ _ _ _ _) | (with_reducible exact heap_4_2 _ _ _ _ _) | (with_reducible exact heap_4_3 _ _ _ _ _) | (with_reducible exact heap_5_0 _ _ _ _ _ _) | (with_reducible exact heap_5_1 _ _ _ _ _ _) | (with_reducible exact heap_5_2 _ _ _ _ _ _) | (with_reducible exact heap_5_3 _ _ _ _ _ _) | (with_reducible exact heap_5_4 _ _ _ _ _ _) | (with_reducible exact heap_6_0 _ _ _ _ _ _ _) | (with_reducible exact heap_6_1 _ _ _ _ _ _ _) | (with_reducible exact heap_6_2 _ _ _ _ _ _ _) | (with_reducible exact heap_6_3 _ _ _ _ _ _ _) | (with_reducible exact heap_6_4 _ _ _ _ _ _ _) | (with_reducible exact heap_6_5 _ _ _ _ _ _ _) | simp only [heap_alloc_past, heap_alloc_at, World.size_alloc, Nat.add_assoc, Nat.reduceAdd, Nat.lt_add_right_iff_pos, Nat.add_lt_add_iff_left, Nat.reduceLT, Nat.zero_lt_succ, Nat.lt_add_one])
  have h2 : ((w.alloc (.cells (Bits.num a) 130)).alloc (.cells (Bits.num b) 130)).heap[B + 1]? = some (.cells (Bits.num b) 130 (0, 0)) := by rw [hB]; exact (by first | (with_reducible exact heap_1_0 _ _) | (with_reducible exact heap_2_0 _ _ _) | (with_reducible exact heap_2_1 _ _ _) | (with_reducible exact heap_3_0 _ _ _ _) | (with_reducible exact heap_3_1 _ _ _ _) | (with_reducible exact heap_3_2 _ _ _ _) | (with_reducible exact heap_4_0 _ _ _ _ _) | (with_reducible exact heap_4_1 _ _ _ _ _) | (with_reducible exact heap_4_2 _ _ _ _ _) | (with_reducible exact heap_4_3 _ _ _ _ _) | (with_reducible exact heap_5_0 _ _ _ _ _ _) | (with_reducible exact heap_5_1 _ _ _ _ _ _) | (with_reducible exact heap_5_2 _ _ _ _ _ _) | (with_reducible exact heap_5_3 _ _ _ _ _ _) | (with_reducible exact heap_5_4 _ _ _ _ _ _) | (with_reducible exact heap_6_0 _ _ _ _ _ _ _) | (with_reducible exact heap_6_1 _ _ _ _ _ _ _) | (with_reducible exact heap_6_2 _ _ _ _ _ _ _) | (with_reducible exact heap_6_3 _ _ _ _ _ _ _) | (with_reducible exact heap_6_4 _ _ _ _ _ _ _) | (with_reducible exact heap_6_5 _ _ _ _ _ _ _) | simp only [heap_alloc_past, heap_alloc_at, World.size_alloc, Nat.add_assoc, Nat.reduceAdd, Nat.lt_add_right_iff_pos, Nat.add_lt_add_iff_left, Nat.reduceLT, Nat.zero_lt_succ, Nat.lt_add_one])
  rw [← hB]
  have HB0 := Lib.hid hB
  clear hB
  generalize (w.alloc (.cells (Bits.num a) 130)).alloc (.cells (Bits.num b) 130) = w0 at *
  go_loopw [5] (fun i wr => ∃ k : Nat, k ≤ 128 ∧ i = .int .i64 (127 - k : Int) ∧ a / 2 ^ (128 - k) = b / 2 ^ (128 - k) ∧ Below B w wr ∧ wr.heap[B]? = some (.cells (Bits.num a) 130 (0, 0)) ∧ wr.heap[B + 1]? = some (.cells (Bits.num b) 130 (0, 0))) (fun i _ => (intOf i + 1).toNat)
  case atStart => exact ⟨0, by omega, rfl, by rw [Nat.div_eq_of_lt HA.out, Nat.div_eq_of_lt HB.out], h0, h1, h2⟩
  case round =>
    clear h0 h1 h2
    obtain ⟨k, hk, rfl, hd, h0, h1, h2⟩ := hrel
    have H0 := Lib.hid h0
    by_cases hlt : k < 128
    · have hs := Bits.cmp_high a b (127 - k) (by rw [show 127 - k + 1 = 128 - k by omega]; exact hd)
      have he : (127 - (k : Int)).toNat = 127 - k := by omega
      have g1 := Bits.num_get a (127 - k) (by omega)
      have g2 := Bits.num_get b (127 - k) (by omega)
      have c1 : wr.cell? ⟨B, 127 - k, none⟩ = some (.bool (a.testBit (127 - k))) := by rw [cell_of_row _ _ _ _ _ _ h1, g1]
      have c2 : wr.cell? ⟨B + 1, 127 - k, none⟩ = some (.bool (b.testBit (127 - k))) := by rw [cell_of_row _ _ _ _ _ _ h2, g2]
      have H1 := Lib.hid h1
      have H2 := Lib.hid h2
      have HS := Lib.hid hs
      have HD := Lib.hid hd
      clear hs hd h0 h1 h2 g1 g2
      cases b1 : a.testBit (127 - k) <;> cases b2 : b.testBit (127 - k)
      · rw [b1] at c1
        rw [b2] at c2
        have hs := HS.out
        rw [b1, b2] at hs
        have HV := Lib.hid (hs.1 rfl)
        clear b1 b2 hs HS
        go_wp2
        go_quiet (fail)
        go_wp2
        go_roundw
        case rel => exact ⟨k + 1, by omega, int_eq (by omega), by rw [show 128 - (k + 1) = 127 - k by omega]; exact HV.out, below_drewN H0.out _, H1.out, H2.out⟩
        case measure => simp [intOf]; omega
      · rw [b1] at c1
        rw [b2] at c2
        have hs := HS.out
        rw [b1, b2] at hs
        have HV : Hid (Bits.cmp a b = -1) := by have := hs.2.2 rfl rfl; show Bits.cmp a b = -1; unfold Bits.cmp; rw [if_pos (by omega)]
        clear b1 b2 hs HS
        go_wp2
        go_quiet (fail)
        go_wp2
        go_ret
        exact ⟨ret_int HV.out.symm, HB0.out ▸ below_drewN H0.out _⟩
      · rw [b1] at c1
        rw [b2] at c2
        have hs := HS.out
        rw [b1, b2] at hs
        have HV : Hid (Bits.cmp a b = 1) := by have := hs.2.1 rfl rfl; show Bits.cmp a b = 1; unfold Bits.cmp; rw [if_neg (by omega), if_pos (by omega)]
        clear b1 b2 hs HS
        go_wp2
        go_quiet (fail)
        go_wp2
        go_ret
        exact ⟨ret_int HV.out.symm, HB0.out ▸ below_drewN H0.out _⟩
      · rw [b1] at c1
        rw [b2] at c2
        have hs := HS.out
        rw [b1, b2] at hs
        have HV := Lib.hid (hs.1 rfl)
        clear b1 b2 hs HS
        go_wp2
        go_quiet (fail)
        go_wp2
        go_roundw
        case rel => exact ⟨k + 1, by omega, int_eq (by omega), by rw [show 128 - (k + 1) = 127 - k by omega]; exact HV.out, below_drewN H0.out _, H1.out, H2.out⟩
        case measure => simp [intOf]; omega
    · obtain rfl : k = 128 := by omega
      simp only [Nat.sub_self, Nat.pow_zero, Nat.div_one] at hd
      have HC : Hid (Bits.cmp a b = 0) := by show Bits.cmp a b = 0; unfold Bits.cmp; rw [if_neg (by omega), if_neg (by omega)]
      clear hd h0 h1 h2
      go_wp2
      go_ret
      exact ⟨ret_int HC.out.symm, HB0.out ▸ H0.out⟩
end Go.Proofs.YtldhbgefpfmkmaaGreat
