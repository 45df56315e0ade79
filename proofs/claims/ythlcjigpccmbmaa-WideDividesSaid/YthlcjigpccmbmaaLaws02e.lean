/- Layer 2: WideDivides, walked. -/
import Derived.Test.YthlcjigpccmbmaaLaws02b
import Derived.Test.YthlcjigpccmbmaaEq
namespace Go.Proofs.Ythlcjigpccmbmaa
open Go.ChangeShapes Go.WideShapes Go.ChangeAt Go.RowKit

/-- The parts of a quotient, put together, are the number. -/
theorem Wide.parts (x d H L r : Nat) (hx : x < 340282366920938463463374607431768211456) (hd : 0 < d) (hd2 : d < 18446744073709551616) (hH : H = x / d / 18446744073709551616) (hL : L = x / d % 18446744073709551616) (hr : r = x % d) :
    H < 18446744073709551616 ∧ L < 18446744073709551616 ∧ r < d ∧ H * d < 18446744073709551616 ∧ L * d + H * d * 18446744073709551616 + r = x ∧ L * d < 340282366920938463463374607431768211456 := by
  have e1 : x / d = H * 18446744073709551616 + L := by omega
  have e2 := Nat.div_add_mod' x d
  rw [e1, ← hr] at e2
  have e3 : (H * 18446744073709551616 + L) * d = H * d * 18446744073709551616 + L * d := by
    rw [Nat.add_mul, Nat.mul_right_comm]
  have hrd : r < d := by rw [hr]; exact Nat.mod_lt _ hd
  have hl : L < 18446744073709551616 := by omega
  have h1 : L * d ≤ 18446744073709551615 * d := Nat.mul_le_mul_right _ (by omega)
  have h2 : H * d < 18446744073709551616 := by omega
  have h3 : H ≤ H * d := Nat.le_mul_of_pos_right _ hd
  refine ⟨by omega, hl, hrd, h2, by omega, by omega⟩

set_option maxHeartbeats 1000000 in
set_option maxRecDepth 100000 in
theorem wideDivides_zero (h l : Nat) (w : World) :
    Calls Try.prog 9 #[.agg #[.int .u64 h, .int .u64 l], .int .u64 0] w fun e w' => e = .returned (.bool true) ∧ Below w.heap.size w w' := by
  have hz : ∀ w, Calls Try.prog 38 #[.agg #[.int .u64 h, .int .u64 l], .int .u64 0] w fun e w' => e = .returned (.tuple #[.agg #[.int .u64 0, .int .u64 0], .int .u64 0, .bool false]) ∧ Below w.heap.size w w' := wide_div_zero h l
  have HZ := Lib.hid hz
  clear hz
  go_enter Try.func9, Try.ntmps9
  go_wp2_with fail
  (with_reducible refine (awake02 _).mono ?_)
  rintro e w1 ⟨rfl, hb1⟩
  have k0 := (below1 w (.cells #[.int .u64 h, .int .u64 l] 36)).trans (hb1.mono (by simp))
  have k1 : w1.heap[w.heap.size]? = some (.cells #[.int .u64 h, .int .u64 l] 36 (0, 0)) := by rw [hb1.block _ (by simp)]; exact (by first | (with_reducible exact heap_1_0 _ _) | (with_reducible exact heap_2_0 _ _ _) | (with_reducible exact heap_2_1 _ _ _) | (with_reducible exact heap_3_0 _ _ _ _) | (with_reducible exact heap_3_1 _ _ _ _) | (with_reducible exact heap_3_2 _ _ _ _) | (with_reducible exact heap_4_0 _ _ _ _ _) | (with_reducible exact heap_4_1 _ _ _ _ _) | (with_reducible exact heap_4_2 _ _ _ _ _) | (with_reducible exact heap_4_3 _ _ _ _ _) | (with_reducible exact heap_5_0 _ _ _ _ _ _) | (with_reducible exact heap_5_1 _ _ _ _ _ _) | (with_reducible exact heap_5_2 _ _ _ _ _ _) | (with_reducible exact heap_5_3 _ _ _ _ _ _) | (with_reducible exact heap_5_4 _ _ _ _ _ _) | (with_reducible exact heap_6_0 _ _ _ _ _ _ _) | (with_reducible exact heap_6_1 _ _ _ _ _ _ _) | (with_reducible exact heap_6_2 _ _ _ _ _ _ _) | (with_reducible exact heap_6_3 _ _ _ _ _ _ _) | (with_reducible exact heap_6_4 _ _ _ _ _ _ _) | (with_reducible exact heap_6_5 _ _ _ _ _ _ _) | simp only [heap_alloc_past, heap_alloc_at, World.size_alloc, Nat.add_assoc, Nat.reduceAdd, Nat.lt_add_right_iff_pos, Nat.add_lt_add_iff_left, Nat.reduceLT, Nat.zero_lt_succ, Nat.lt_add_one])
  clear hb1
  have K0 := Lib.hid k0
  have K1 := Lib.hid k1
  clear k0 k1
  go_wp2_with ((with_reducible refine wpList_load_rowAs rfl 36 _ rfl (w.heap.size) ?_ 36 #[.int .u64 h, .int .u64 l] (0, 0) _ 2 ?_ Try.underlying36 rfl (by kernel_rfl) ?_ ?_); exact rfl; exact K1.out; exact rfl)
  (with_reducible refine (HZ.out _).mono ?_)
  rintro e w2 ⟨rfl, hb2⟩
  have K2 := Lib.hid (K0.out.trans (hb2.mono K0.out.size))
  clear hb2
  go_wp2
  go_ret
  exact ⟨rfl, K2.out.alloc K2.out.size _⟩

set_option maxHeartbeats 1000000 in
set_option maxRecDepth 100000 in
theorem wideDivides_pos (h l : Nat) (hh : h < 18446744073709551616) (hl : l < 18446744073709551616) (d : Nat) (hd : 0 < d) (hd2 : d < 18446744073709551616) (w : World) :
    Calls Try.prog 9 #[.agg #[.int .u64 h, .int .u64 l], .int .u64 d] w fun e w' => e = .returned (.bool true) ∧ Below w.heap.size w w' := by
  have hz := wide_div_pos h l d hh hl hd hd2
  have hx : W2 h l < 340282366920938463463374607431768211456 := by unfold W2; omega
  have hnum := law_num (W2 h l) hx
  rw [two_W2 h l hl] at hnum
  obtain ⟨x, ex⟩ : ∃ x, x = W2 h l := ⟨_, rfl⟩
  rw [← ex] at hz hx hnum
  obtain ⟨H, eH⟩ : ∃ H, H = x / d / 18446744073709551616 := ⟨_, rfl⟩
  obtain ⟨L, eL⟩ : ∃ L, L = x / d % 18446744073709551616 := ⟨_, rfl⟩
  obtain ⟨r, er⟩ : ∃ r, r = x % d := ⟨_, rfl⟩
  obtain ⟨p1, p2, p3, p4, p5, p6⟩ := Wide.parts x d H L r hx hd hd2 eH eL er
  rw [show two (x / d) = .agg #[.int .u64 H, .int .u64 L] by unfold two; rw [← eH, ← eL], ← er] at hz
  have m1 := ref_numMul H d p1 hd2
  have m2 := ref_numMul L d p2 hd2
  obtain ⟨z, ez⟩ : ∃ z : Int, z = H := ⟨_, rfl⟩
  rw [← ez] at hz m1
  have hz0 : 0 ≤ z := by omega
  have hz1 : z < 18446744073709551616 := by omega
  have i1 := ref_hi (H * d) (by omega)
  rw [show H * d / 2 ^ 64 = 0 by omega] at i1
  have i2 := ref_lo (H * d)
  rw [show H * d % 2 ^ 64 = H * d by omega] at i2
  have o1 := ref_of (H * d) 0 p4 (by omega)
  rw [Nat.add_zero] at o1
  have o2 := ref_of 0 r (by omega) (by omega)
  rw [Nat.zero_mul, Nat.zero_add] at o2
  have a1 := ref_numAdd (L * d) (H * d * 2 ^ 64) p6 (by omega)
  rw [show Bits.sum (L * d) (H * d * 2 ^ 64) = L * d + H * d * 2 ^ 64 by unfold Bits.sum; rw [if_pos (by omega)], show Bits.fits (L * d) (H * d * 2 ^ 64) = true from decide_eq_true (by omega)] at a1
  have a2 := ref_numAdd (L * d + H * d * 2 ^ 64) r (by omega) (by omega)
  rw [show Bits.sum (L * d + H * d * 2 ^ 64) r = x by unfold Bits.sum; rw [if_pos (by omega)]; omega, show Bits.fits (L * d + H * d * 2 ^ 64) r = true from decide_eq_true (by omega)] at a2
  obtain ⟨A, eA⟩ : ∃ A, A = H * d := ⟨_, rfl⟩
  obtain ⟨B, eB⟩ : ∃ B, B = L * d := ⟨_, rfl⟩
  rw [← eA] at m1 i1 i2 o1 a1 a2
  rw [← eB] at m2 a1 a2
  obtain ⟨C, eC⟩ : ∃ C, C = A * 2 ^ 64 := ⟨_, rfl⟩
  rw [← eC] at o1 a1 a2
  obtain ⟨S, eS⟩ : ∃ S, S = B + C := ⟨_, rfl⟩
  rw [← eS] at a1 a2
  have i1' : ∀ w, Calls Try.prog 39 #[.agg (Bits.num A)] w fun e w' => e = .returned (.int .u64 0) ∧ Below w.heap.size w w' := i1
  have o1' : ∀ w, Calls Try.prog 40 #[.int .u64 A, .int .u64 0] w fun e w' => e = .returned (.agg (Bits.num C)) ∧ Below w.heap.size w w' := o1
  have o2' : ∀ w, Calls Try.prog 40 #[.int .u64 0, .int .u64 r] w fun e w' => e = .returned (.agg (Bits.num r)) ∧ Below w.heap.size w w' := o2
  have HZ := Lib.hid hz
  have HN := Lib.hid hnum
  have M1 := Lib.hid m1
  have M2 := Lib.hid m2
  have I1 := Lib.hid i1'
  have I2 := Lib.hid i2
  have O1 := Lib.hid o1'
  have O2 := Lib.hid o2'
  have A1 := Lib.hid a1
  have A2 := Lib.hid a2
  clear hz hnum m1 m2 i1 i2 o1 o2 a1 a2 i1' o1' o2' ex eH eL er eA eB eC eS p1 p4 p5 p6 hx ez
  have d0 : ((d : Int) == 0) = false := beq_eq_false_iff_ne.2 (by omega)
  have d1 : decide ((d : Int) ≤ r) = false := decide_eq_false (by omega)
  go_enter Try.func9, Try.ntmps9
  go_wp2_with fail
  (with_reducible refine (awake02 _).mono ?_)
  rintro e w1 ⟨rfl, hb1⟩
  have k0 := (below1 w (.cells #[.int .u64 h, .int .u64 l] 36)).trans (hb1.mono (by simp))
  have k1 : w1.heap[w.heap.size]? = some (.cells #[.int .u64 h, .int .u64 l] 36 (0, 0)) := by rw [hb1.block _ (by simp)]; exact (by first | (with_reducible exact heap_1_0 _ _) | (with_reducible exact heap_2_0 _ _ _) | (with_reducible exact heap_2_1 _ _ _) | (with_reducible exact heap_3_0 _ _ _ _) | (with_reducible exact heap_3_1 _ _ _ _) | (with_reducible exact heap_3_2 _ _ _ _) | (with_reducible exact heap_4_0 _ _ _ _ _) | (with_reducible exact heap_4_1 _ _ _ _ _) | (with_reducible exact heap_4_2 _ _ _ _ _) | (with_reducible exact heap_4_3 _ _ _ _ _) | (with_reducible exact heap_5_0 _ _ _ _ _ _) | (with_reducible exact heap_5_1 _ _ _ _ _ _) | (with_reducible exact heap_5_2 _ _ _ _ _ _) | (with_reducible exact heap_5_3 _ _ _ _ _ _) | (with_reducible exact heap_5_4 _ _ _ _ _ _) | (with_reducible exact heap_6_0 _ _ _ _ _ _ _) | (with_reducible exact heap_6_1 _ _ _ _ _ _ _) | (with_reducible exact heap_6_2 _ _ _ _ _ _ _) | (with_reducible exact heap_6_3 _ _ _ _ _ _ _) | (with_reducible exact heap_6_4 _ _ _ _ _ _ _) | (with_reducible exact heap_6_5 _ _ _ _ _ _ _) | simp only [heap_alloc_past, heap_alloc_at, World.size_alloc, Nat.add_assoc, Nat.reduceAdd, Nat.lt_add_right_iff_pos, Nat.add_lt_add_iff_left, Nat.reduceLT, Nat.zero_lt_succ, Nat.lt_add_one])
  clear hb1
  have K0 := Lib.hid k0
  have K1 := Lib.hid k1
  clear k0 k1
  go_wp2_with ((with_reducible refine wpList_load_rowAs rfl 36 _ rfl (w.heap.size) ?_ 36 #[.int .u64 h, .int .u64 l] (0, 0) _ 2 ?_ Try.underlying36 rfl (by kernel_rfl) ?_ ?_); exact rfl; exact K1.out; exact rfl)
  (with_reducible refine (HZ.out _).mono ?_)
  rintro e w2 ⟨rfl, hb2⟩
  have k0 := (K0.out.trans (hb2.mono K0.out.size)).alloc (K0.out.trans (hb2.mono K0.out.size)).size (.cells #[.int .u64 z, .int .u64 L] 36)
  have k1 : (w2.alloc (.cells #[.int .u64 z, .int .u64 L] 36)).heap[w.heap.size]? = some (.cells #[.int .u64 h, .int .u64 l] 36 (0, 0)) := by
    have := (hb2.block _ (lt_of_heap K1.out)).trans K1.out
    rw [heap_alloc_past _ _ _ (lt_of_heap this)]; exact this
  have k2 : (w2.alloc (.cells #[.int .u64 z, .int .u64 L] 36)).heap[w2.heap.size]? = some (.cells #[.int .u64 z, .int .u64 L] 36 (0, 0)) := heap_alloc_at _ _ _ rfl
  clear hb2 K0 K1
  have K0 := Lib.hid k0
  have K1 := Lib.hid k1
  have K2 := Lib.hid k2
  clear k0 k1 k2
  by_cases hH : 0 < z
  · go_wp2_with fail
    (with_reducible refine (M1.out _).mono ?_)
    rintro e w3 ⟨rfl, hb3⟩
    have k0 := K0.out.trans (hb3.mono K0.out.size)
    have k1 := (hb3.block _ (lt_of_heap K1.out)).trans K1.out
    have k2 := (hb3.block _ (lt_of_heap K2.out)).trans K2.out
    clear hb3 K0 K1 K2
    have K0 := Lib.hid k0
    have K1 := Lib.hid k1
    have K2 := Lib.hid k2
    clear k0 k1 k2
    go_wp2_with fail
    (with_reducible refine (I1.out _).mono ?_)
    rintro e w4 ⟨rfl, hb4⟩
    have k0 := K0.out.trans (hb4.mono K0.out.size)
    have k1 := (hb4.block _ (lt_of_heap K1.out)).trans K1.out
    have k2 := (hb4.block _ (lt_of_heap K2.out)).trans K2.out
    clear hb4 K0 K1 K2
    have K0 := Lib.hid k0
    have K1 := Lib.hid k1
    have K2 := Lib.hid k2
    clear k0 k1 k2
    have c0 : w4.cell? ⟨w2.heap.size, 0, none⟩ = some (.int .u64 z) := by rw [cell_of_row _ _ _ _ _ _ K2.out]; rfl
    go_wp2_with fail
    (with_reducible refine (M1.out _).mono ?_)
    rintro e w5 ⟨rfl, hb5⟩
    have k0 := K0.out.trans (hb5.mono K0.out.size)
    have k1 := (hb5.block _ (lt_of_heap K1.out)).trans K1.out
    have k2 := (hb5.block _ (lt_of_heap K2.out)).trans K2.out
    clear hb5 K0 K1 K2
    have K0 := Lib.hid k0
    have K1 := Lib.hid k1
    have K2 := Lib.hid k2
    clear k0 k1 k2
    clear c0
    go_wp2_with fail
    (with_reducible refine (I2.out _).mono ?_)
    rintro e w6 ⟨rfl, hb6⟩
    have k0 := K0.out.trans (hb6.mono K0.out.size)
    have k1 := (hb6.block _ (lt_of_heap K1.out)).trans K1.out
    have k2 := (hb6.block _ (lt_of_heap K2.out)).trans K2.out
    clear hb6 K0 K1 K2
    have K0 := Lib.hid k0
    have K1 := Lib.hid k1
    have K2 := Lib.hid k2
    clear k0 k1 k2
    go_wp2_with fail
    (with_reducible refine (O1.out _).mono ?_)
    rintro e w7 ⟨rfl, hb7⟩
    have k0 := K0.out.trans (hb7.mono K0.out.size)
    have k1 := (hb7.block _ (lt_of_heap K1.out)).trans K1.out
    have k2 := (hb7.block _ (lt_of_heap K2.out)).trans K2.out
    clear hb7 K0 K1 K2
    have K0 := Lib.hid k0
    have K1 := Lib.hid k1
    have K2 := Lib.hid k2
    clear k0 k1 k2
    have k0 := K0.out.alloc K0.out.size (.cells (Bits.num C) 41)
    have k1 : (w7.alloc (.cells (Bits.num C) 41)).heap[w.heap.size]? = some (.cells #[.int .u64 h, .int .u64 l] 36 (0, 0)) := by rw [heap_alloc_past _ _ _ (lt_of_heap K1.out)]; exact K1.out
    have k2 : (w7.alloc (.cells (Bits.num C) 41)).heap[w2.heap.size]? = some (.cells #[.int .u64 z, .int .u64 L] 36 (0, 0)) := by rw [heap_alloc_past _ _ _ (lt_of_heap K2.out)]; exact K2.out
    have k3 : (w7.alloc (.cells (Bits.num C) 41)).heap[w7.heap.size]? = some (.cells (Bits.num C) 41 (0, 0)) := heap_alloc_at _ _ _ rfl
    have hlt : w.heap.size < w7.heap.size := lt_of_heap K1.out
    clear K0 K1 K2
    have K0 := Lib.hid k0
    have K1 := Lib.hid k1
    have K2 := Lib.hid k2
    have K3 := Lib.hid k3
    clear k0 k1 k2 k3
    go_wp2_with (first | ((with_reducible refine wpList_alloc_as rfl _ rfl _ (numZero _) ?_); (try simp only [World.size_alloc])) | ((with_reducible refine wpList_store_rowAs rfl 41 _ _ rfl (w7.heap.size) (Bits.num C) ?_ ?_ 41 (Bits.num 0) 128 ?_ numInfo (Bits.num_size _) (Bits.num_size _) (num_oneCell _) ?_); exact rfl; exact rfl; exact (by first | (with_reducible exact heap_1_0 _ _) | (with_reducible exact heap_2_0 _ _ _) | (with_reducible exact heap_2_1 _ _ _) | (with_reducible exact heap_3_0 _ _ _ _) | (with_reducible exact heap_3_1 _ _ _ _) | (with_reducible exact heap_3_2 _ _ _ _) | (with_reducible exact heap_4_0 _ _ _ _ _) | (with_reducible exact heap_4_1 _ _ _ _ _) | (with_reducible exact heap_4_2 _ _ _ _ _) | (with_reducible exact heap_4_3 _ _ _ _ _) | (with_reducible exact heap_5_0 _ _ _ _ _ _) | (with_reducible exact heap_5_1 _ _ _ _ _ _) | (with_reducible exact heap_5_2 _ _ _ _ _ _) | (with_reducible exact heap_5_3 _ _ _ _ _ _) | (with_reducible exact heap_5_4 _ _ _ _ _ _) | (with_reducible exact heap_6_0 _ _ _ _ _ _ _) | (with_reducible exact heap_6_1 _ _ _ _ _ _ _) | (with_reducible exact heap_6_2 _ _ _ _ _ _ _) | (with_reducible exact heap_6_3 _ _ _ _ _ _ _) | (with_reducible exact heap_6_4 _ _ _ _ _ _ _) | (with_reducible exact heap_6_5 _ _ _ _ _ _ _) | simp only [heap_alloc_past, heap_alloc_at, World.size_alloc, Nat.add_assoc, Nat.reduceAdd, Nat.lt_add_right_iff_pos, Nat.add_lt_add_iff_left, Nat.reduceLT, Nat.zero_lt_succ, Nat.lt_add_one]); (first | rw [row_1_0] | rw [row_2_0] | rw [row_2_1] | rw [row_3_0] | rw [row_3_1] | rw [row_3_2] | rw [row_4_0] | rw [row_4_1] | rw [row_4_2] | rw [row_4_3] | rw [row_5_0] | rw [row_5_1] | rw [row_5_2] | rw [row_5_3] | rw [row_5_4] | rw [row_6_0] | rw [row_6_1] | rw [row_6_2] | rw [row_6_3] | rw [row_6_4] | rw [row_6_5] | simp only [setRow_alloc_past, setRow_alloc_at, World.size_alloc, Nat.add_assoc, Nat.reduceAdd, Nat.lt_add_right_iff_pos, Nat.add_lt_add_iff_left, Nat.reduceLT, Nat.zero_lt_succ, Nat.lt_add_one])))
    generalize w7.alloc (.cells (Bits.num C) 41) = w8 at *
    obtain ⟨X, hX⟩ : ∃ X, X = w7.heap.size := ⟨_, rfl⟩
    obtain ⟨Y, hY⟩ : ∃ X, X = w2.heap.size := ⟨_, rfl⟩
    rw [← hX] at K3 hlt ⊢
    rw [← hY] at K2 ⊢
    clear hX hY
    have m2 := M2.out
    have a1 := A1.out
    have a2 := A2.out
    have o2 := O2.out
    have hn := HN.out
    have hst : Stab (fun w' => (Below w.heap.size w w' ∧ w'.heap[w.heap.size]? = some (.cells #[.int .u64 h, .int .u64 l] 36 (0, 0)) ∧ w'.heap[Y]? = some (.cells #[.int .u64 z, .int .u64 L] 36 (0, 0))) ∧ w'.heap[X]? = some (.cells (Bits.num C) 41 (0, 0))) :=
      stab_and (stab_and (stab_below (Nat.le_refl _)) (stab_and (stab_heap _ _) (stab_heap _ _))) (stab_heap _ _)
    refine wp_region_E mixed [10] hst ⟨⟨below_drew K0.out, K1.out, K2.out⟩, K3.out⟩ ?_
    refine wpAnyE_take 0 (v := .pointer (some ⟨Y, 1, none⟩)) rfl (by kernel_rfl) (by kernel_rfl) (by kernel_rfl) (fun _ _ _ h => h) hst (EffB.run rfl rfl (fun wd hS => ?_)) (.inr (EffB.run rfl rfl (fun wd hS => ?_))) ?_
    · (go_wp2; exact ⟨rfl, Below.refl _ _⟩)
    · (go_wp2; exact ⟨rfl, Below.refl _ _⟩)
    simp only [act_norm]
    refine wpAnyE_take 1 (v := .int .u64 L) rfl (by kernel_rfl) (by kernel_rfl) (by kernel_rfl) (fun _ _ _ h => h) hst (EffB.run rfl rfl (fun wd hS => ?_)) (.inl (by kernel_rfl)) ?_
    · (have c2 : wd.cell? ⟨Y, 1, none⟩ = some (.int .u64 L) := by rw [cell_of_row _ _ _ _ _ _ hS.1.2.2]; rfl); go_wp2; exact ⟨rfl, Below.refl _ _⟩
    simp only [act_norm]
    refine wpAnyE_take 2 rfl (by kernel_rfl) (by kernel_rfl) (by kernel_rfl) (fun _ _ _ h => h) hst (EffB.pure rfl (fun _ => rfl)) (.inr (EffB.pure rfl (fun _ => rfl))) ?_
    simp only [act_norm]
    refine wpAnyE_take 3 (v := .agg (Bits.num B)) rfl (by kernel_rfl) (by kernel_rfl) (by kernel_rfl) (fun _ _ _ h => h) hst (EffB.run rfl rfl (fun wd hS => ?_)) (.inl (by kernel_rfl)) ?_
    · (go_wp2_with fail; (with_reducible refine (m2 wd).mono ?_); rintro e w'' ⟨rfl, hb⟩; exact ⟨rfl, hb⟩)
    simp only [act_norm]
    refine wpAnyE_take 4 (v := .agg (Bits.num C)) rfl (by kernel_rfl) (by kernel_rfl) (by kernel_rfl) (fun _ _ _ h => h) hst (EffB.run rfl rfl (fun wd hS => ?_)) (.inl (by kernel_rfl)) ?_
    · exact wp_load_row 41 _ rfl X rfl 41 (Bits.num C) (0, 0) _ hS.2 Try.underlying41 rfl (by rw [Bits.num_size]; exact numInfo) ⟨rfl, Below.refl _ _⟩
    simp only [act_norm]
    refine wpAnyE_take 5 (v := .tuple #[.agg (Bits.num S), .bool true]) rfl (by kernel_rfl) (by kernel_rfl) (by kernel_rfl) (fun _ _ _ h => h) hst (EffB.run rfl rfl (fun wd hS => ?_)) (.inl (by kernel_rfl)) ?_
    · (go_wp2_with fail; (with_reducible refine (a1 wd).mono ?_); rintro e w'' ⟨rfl, hb⟩; exact ⟨rfl, hb⟩)
    simp only [act_norm]
    refine wpAnyE_take 6 rfl (by kernel_rfl) (by kernel_rfl) (by kernel_rfl) (fun _ _ _ h => h) hst (EffB.pure rfl (fun _ => rfl)) (.inr (EffB.pure rfl (fun _ => rfl))) ?_
    simp only [act_norm]
    refine wpAnyE_take 7 (v := .agg (Bits.num S)) rfl (by kernel_rfl) (by kernel_rfl) (by kernel_rfl) (fun _ _ _ h => h) hst (EffB.run rfl rfl (fun wd hS => ?_)) (.inr (EffB.run rfl rfl (fun wd hS => ?_))) ?_
    · (go_wp2; exact ⟨rfl, Below.refl _ _⟩)
    · (go_wp2; exact ⟨rfl, Below.refl _ _⟩)
    simp only [act_norm]
    refine wpAnyE_take 8 (v := .bool true) rfl (by kernel_rfl) (by kernel_rfl) (by kernel_rfl) (fun _ _ _ h => h) hst (EffB.run rfl rfl (fun wd hS => ?_)) (.inr (EffB.run rfl rfl (fun wd hS => ?_))) ?_
    · (go_wp2; exact ⟨rfl, Below.refl _ _⟩)
    · (go_wp2; exact ⟨rfl, Below.refl _ _⟩)
    simp only [act_norm]
    refine wpAnyE_one 9 rfl (by kernel_rfl) rfl (fun wd hS => ?_)
    refine wp_alloc_as 41 rfl (Bits.num 0) (numZero _) ?_
    refine ⟨fun w' => ((Below w.heap.size w w' ∧ w'.heap[w.heap.size]? = some (.cells #[.int .u64 h, .int .u64 l] 36 (0, 0)) ∧ w'.heap[Y]? = some (.cells #[.int .u64 z, .int .u64 L] 36 (0, 0))) ∧ w'.heap[X]? = some (.cells (Bits.num C) 41 (0, 0))) ∧ w'.heap[wd.heap.size]? = some (.cells (Bits.num 0) 41 (0, 0)),
      ⟨hst _ _ hS (below1 _ _), heap_alloc_at _ _ _ rfl⟩, stab_and hst (stab_heap _ _), .inr (fun _ h => h.1), ?_⟩
    have hst2 : Stab (fun w' => (Below w.heap.size w w' ∧ w'.heap[w.heap.size]? = some (.cells #[.int .u64 h, .int .u64 l] 36 (0, 0))) ∧ w'.heap[wd.heap.size]? = some (.cells (Bits.num S) 41 (0, 0))) := stab_and (stab_and (stab_below (Nat.le_refl _)) (stab_heap _ _)) (stab_heap _ _)
    have hlx := lt_of_heap hS.1.2.1
    obtain ⟨V, hV⟩ : ∃ V, V = wd.heap.size := ⟨_, rfl⟩
    rw [← hV] at hst2 hlx ⊢
    clear hV hS
    refine wpAnyE_one 10 rfl (by kernel_rfl) rfl (fun wd hS => ?_)
    refine wp_store_row 41 _ _ rfl V (Bits.num S) rfl rfl 41 (Bits.num 0) hS.2 (by rw [Bits.num_size]; exact numInfo) (by rw [Bits.num_size, Bits.num_size]) (num_oneCell _) ?_
    refine ⟨fun w' => (Below w.heap.size w w' ∧ w'.heap[w.heap.size]? = some (.cells #[.int .u64 h, .int .u64 l] 36 (0, 0))) ∧ w'.heap[V]? = some (.cells (Bits.num S) 41 (0, 0)),
      ⟨⟨below_setRow hS.1.1.1 (by omega) _, (setRow_other _ _ _ _ (by omega)).trans hS.1.1.2.1⟩, setRow_heap _ _ _ _ _ _ hS.2⟩, hst2, .inl (by simp), ?_⟩
    simp only [act_norm]
    clear hS hst
    have hst := hst2
    refine wpAnyE_take 11 rfl (by kernel_rfl) (by kernel_rfl) (by kernel_rfl) (fun _ _ _ h => h) hst (EffB.pure rfl (fun _ => rfl)) (.inr (EffB.pure rfl (fun _ => rfl))) ?_
    simp only [act_norm]
    refine wpAnyE_done (by kernel_rfl) (fun wd hS => ?_) _
    have HS := Lib.hid hS
    clear hS K0 K1 K2 K3
    go_wp2_with fail
    refine wp_region_E mixed [7] hst ⟨⟨below_drew HS.out.1.1, HS.out.1.2⟩, HS.out.2⟩ ?_
    refine wpAnyE_take 0 (v := .agg (Bits.num S)) rfl (by kernel_rfl) (by kernel_rfl) (by kernel_rfl) (fun _ _ _ h => h) hst (EffB.run rfl rfl (fun wd hS => ?_)) (.inl (by kernel_rfl)) ?_
    · exact wp_load_row 41 _ rfl V rfl 41 (Bits.num S) (0, 0) _ hS.2 Try.underlying41 rfl (by rw [Bits.num_size]; exact numInfo) ⟨rfl, Below.refl _ _⟩
    simp only [act_norm]
    refine wpAnyE_take 1 rfl (by kernel_rfl) (by kernel_rfl) (by kernel_rfl) (fun _ _ _ h => h) hst (EffB.pure rfl (fun _ => rfl)) (.inr (EffB.pure rfl (fun _ => rfl))) ?_
    simp only [act_norm]
    refine wpAnyE_take 2 (v := .agg (Bits.num r)) rfl (by kernel_rfl) (by kernel_rfl) (by kernel_rfl) (fun _ _ _ h => h) hst (EffB.run rfl rfl (fun wd hS => ?_)) (.inl (by kernel_rfl)) ?_
    · (go_wp2_with fail; (with_reducible refine (o2 wd).mono ?_); rintro e w'' ⟨rfl, hb⟩; exact ⟨rfl, hb⟩)
    simp only [act_norm]
    refine wpAnyE_take 3 (v := .tuple #[.agg (Bits.num x), .bool true]) rfl (by kernel_rfl) (by kernel_rfl) (by kernel_rfl) (fun _ _ _ h => h) hst (EffB.run rfl rfl (fun wd hS => ?_)) (.inl (by kernel_rfl)) ?_
    · (go_wp2_with fail; (with_reducible refine (a2 wd).mono ?_); rintro e w'' ⟨rfl, hb⟩; exact ⟨rfl, hb⟩)
    simp only [act_norm]
    refine wpAnyE_take 4 rfl (by kernel_rfl) (by kernel_rfl) (by kernel_rfl) (fun _ _ _ h => h) hst (EffB.pure rfl (fun _ => rfl)) (.inr (EffB.pure rfl (fun _ => rfl))) ?_
    simp only [act_norm]
    refine wpAnyE_take 5 (v := .agg (Bits.num x)) rfl (by kernel_rfl) (by kernel_rfl) (by kernel_rfl) (fun _ _ _ h => h) hst (EffB.run rfl rfl (fun wd hS => ?_)) (.inr (EffB.run rfl rfl (fun wd hS => ?_))) ?_
    · (go_wp2; exact ⟨rfl, Below.refl _ _⟩)
    · (go_wp2; exact ⟨rfl, Below.refl _ _⟩)
    simp only [act_norm]
    refine wpAnyE_take 6 (v := .bool true) rfl (by kernel_rfl) (by kernel_rfl) (by kernel_rfl) (fun _ _ _ h => h) hst (EffB.run rfl rfl (fun wd hS => ?_)) (.inr (EffB.run rfl rfl (fun wd hS => ?_))) ?_
    · (go_wp2; exact ⟨rfl, Below.refl _ _⟩)
    · (go_wp2; exact ⟨rfl, Below.refl _ _⟩)
    simp only [act_norm]
    refine wpAnyE_one 7 rfl (by kernel_rfl) rfl (fun wd hS => ?_)
    refine wp_store_row 41 _ _ rfl V (Bits.num x) rfl rfl 41 (Bits.num S) hS.2 (by rw [Bits.num_size]; exact numInfo) (by rw [Bits.num_size, Bits.num_size]) (num_oneCell _) ?_
    have hst3 : Stab (fun w' => (Below w.heap.size w w' ∧ w'.heap[w.heap.size]? = some (.cells #[.int .u64 h, .int .u64 l] 36 (0, 0))) ∧ w'.heap[V]? = some (.cells (Bits.num x) 41 (0, 0))) := stab_and (stab_and (stab_below (Nat.le_refl _)) (stab_heap _ _)) (stab_heap _ _)
    refine ⟨fun w' => (Below w.heap.size w w' ∧ w'.heap[w.heap.size]? = some (.cells #[.int .u64 h, .int .u64 l] 36 (0, 0))) ∧ w'.heap[V]? = some (.cells (Bits.num x) 41 (0, 0)),
      ⟨⟨below_setRow hS.1.1 (by omega) _, (setRow_other _ _ _ _ (by omega)).trans hS.1.2⟩, setRow_heap _ _ _ _ _ _ hS.2⟩, hst3, .inl (by simp), ?_⟩
    simp only [act_norm]
    clear hS hst hst2 HS
    have hst := hst3
    refine wpAnyE_take 8 rfl (by kernel_rfl) (by kernel_rfl) (by kernel_rfl) (fun _ _ _ h => h) hst (EffB.pure rfl (fun _ => rfl)) (.inr (EffB.pure rfl (fun _ => rfl))) ?_
    simp only [act_norm]
    refine wpAnyE_done (by kernel_rfl) (fun wd hS => ?_) _
    have HS := Lib.hid hS
    clear hS
    go_wp2_with fail
    refine wp_region_E mixed [7] hst ⟨⟨below_drew HS.out.1.1, HS.out.1.2⟩, HS.out.2⟩ ?_
    refine wpAnyE_take 0 rfl (by kernel_rfl) (by kernel_rfl) (by kernel_rfl) (fun _ _ _ h => h) hst (EffB.pure rfl (fun _ => rfl)) (.inr (EffB.pure rfl (fun _ => rfl))) ?_
    simp only [act_norm]
    refine wpAnyE_take 1 rfl (by kernel_rfl) (by kernel_rfl) (by kernel_rfl) (fun _ _ _ h => h) hst (EffB.pure rfl (fun _ => rfl)) (.inr (EffB.pure rfl (fun _ => rfl))) ?_
    simp only [act_norm]
    refine wpAnyE_take 2 (v := .agg (Bits.num x)) rfl (by kernel_rfl) (by kernel_rfl) (by kernel_rfl) (fun _ _ _ h => h) hst (EffB.run rfl rfl (fun wd hS => ?_)) (.inl (by kernel_rfl)) ?_
    · exact wp_load_row 41 _ rfl V rfl 41 (Bits.num x) (0, 0) _ hS.2 Try.underlying41 rfl (by rw [Bits.num_size]; exact numInfo) ⟨rfl, Below.refl _ _⟩
    simp only [act_norm]
    refine wpAnyE_take 3 (v := .agg #[.int .u64 h, .int .u64 l]) rfl (by kernel_rfl) (by kernel_rfl) (by kernel_rfl) (fun _ _ _ h => h) hst (EffB.run rfl rfl (fun wd hS => ?_)) (.inl (by kernel_rfl)) ?_
    · exact wp_load_row 36 _ rfl w.heap.size rfl 36 #[.int .u64 h, .int .u64 l] (0, 0) _ hS.1.2 Try.underlying36 rfl twoInfo ⟨rfl, Below.refl _ _⟩
    simp only [act_norm]
    refine wpAnyE_take 4 (v := .agg (Bits.num x)) rfl (by kernel_rfl) (by kernel_rfl) (by kernel_rfl) (fun _ _ _ h => h) hst (EffB.run rfl rfl (fun wd hS => ?_)) (.inl (by kernel_rfl)) ?_
    · (go_wp2_with fail; (with_reducible refine (hn wd).mono ?_); rintro e w'' ⟨rfl, hb⟩; exact ⟨rfl, hb⟩)
    simp only [act_norm]
    refine wpAnyE_take 5 (v := .bool true) rfl (by kernel_rfl) (by kernel_rfl) (by kernel_rfl) (fun _ _ _ h => h) hst (EffB.run rfl rfl (fun wd hS => ?_)) (.inl (by kernel_rfl)) ?_
    · exact wp_eql_agg 41 41 _ _ rfl (Bits.num x) (Bits.num x) rfl rfl true (by kernel_rfl) (num_equal x _) ⟨rfl, Below.refl _ _⟩
    simp only [act_norm]
    refine wpAnyE_take 6 (v := .bool true) rfl (by kernel_rfl) (by kernel_rfl) (by kernel_rfl) (fun _ _ _ h => h) hst (EffB.run rfl rfl (fun wd hS => ?_)) (.inr (EffB.run rfl rfl (fun wd hS => ?_))) ?_
    · (go_wp2; exact ⟨rfl, Below.refl _ _⟩)
    · (go_wp2; exact ⟨rfl, Below.refl _ _⟩)
    simp only [act_norm]
    refine wpAnyE_take 7 (v := .bool true) rfl (by kernel_rfl) (by kernel_rfl) (by kernel_rfl) (fun _ _ _ h => h) hst (EffB.run rfl rfl (fun wd hS => ?_)) (.inr (EffB.run rfl rfl (fun wd hS => ?_))) ?_
    · (go_wp2; exact ⟨rfl, Below.refl _ _⟩)
    · (go_wp2; exact ⟨rfl, Below.refl _ _⟩)
    simp only [act_norm]
    refine wpAnyE_done (by kernel_rfl) (fun wd hS => ?_) _
    go_wp2
    go_ret
    exact ⟨rfl, hS.1.1⟩
  · have hz : z ≤ 0 := by omega
    have dz : decide (0 < z) = false := decide_eq_false hH
    go_wp2_with fail
    (with_reducible refine (M1.out _).mono ?_)
    rintro e w5 ⟨rfl, hb5⟩
    have k0 := K0.out.trans (hb5.mono K0.out.size)
    have k1 := (hb5.block _ (lt_of_heap K1.out)).trans K1.out
    have k2 := (hb5.block _ (lt_of_heap K2.out)).trans K2.out
    clear hb5 K0 K1 K2
    have K0 := Lib.hid k0
    have K1 := Lib.hid k1
    have K2 := Lib.hid k2
    clear k0 k1 k2
    go_wp2_with fail
    (with_reducible refine (I2.out _).mono ?_)
    rintro e w6 ⟨rfl, hb6⟩
    have k0 := K0.out.trans (hb6.mono K0.out.size)
    have k1 := (hb6.block _ (lt_of_heap K1.out)).trans K1.out
    have k2 := (hb6.block _ (lt_of_heap K2.out)).trans K2.out
    clear hb6 K0 K1 K2
    have K0 := Lib.hid k0
    have K1 := Lib.hid k1
    have K2 := Lib.hid k2
    clear k0 k1 k2
    go_wp2_with fail
    (with_reducible refine (O1.out _).mono ?_)
    rintro e w7 ⟨rfl, hb7⟩
    have k0 := K0.out.trans (hb7.mono K0.out.size)
    have k1 := (hb7.block _ (lt_of_heap K1.out)).trans K1.out
    have k2 := (hb7.block _ (lt_of_heap K2.out)).trans K2.out
    clear hb7 K0 K1 K2
    have K0 := Lib.hid k0
    have K1 := Lib.hid k1
    have K2 := Lib.hid k2
    clear k0 k1 k2
    have k0 := K0.out.alloc K0.out.size (.cells (Bits.num C) 41)
    have k1 : (w7.alloc (.cells (Bits.num C) 41)).heap[w.heap.size]? = some (.cells #[.int .u64 h, .int .u64 l] 36 (0, 0)) := by rw [heap_alloc_past _ _ _ (lt_of_heap K1.out)]; exact K1.out
    have k2 : (w7.alloc (.cells (Bits.num C) 41)).heap[w2.heap.size]? = some (.cells #[.int .u64 z, .int .u64 L] 36 (0, 0)) := by rw [heap_alloc_past _ _ _ (lt_of_heap K2.out)]; exact K2.out
    have k3 : (w7.alloc (.cells (Bits.num C) 41)).heap[w7.heap.size]? = some (.cells (Bits.num C) 41 (0, 0)) := heap_alloc_at _ _ _ rfl
    have hlt : w.heap.size < w7.heap.size := lt_of_heap K1.out
    clear K0 K1 K2
    have K0 := Lib.hid k0
    have K1 := Lib.hid k1
    have K2 := Lib.hid k2
    have K3 := Lib.hid k3
    clear k0 k1 k2 k3
    go_wp2_with (first | ((with_reducible refine wpList_alloc_as rfl _ rfl _ (numZero _) ?_); (try simp only [World.size_alloc])) | ((with_reducible refine wpList_store_rowAs rfl 41 _ _ rfl (w7.heap.size) (Bits.num C) ?_ ?_ 41 (Bits.num 0) 128 ?_ numInfo (Bits.num_size _) (Bits.num_size _) (num_oneCell _) ?_); exact rfl; exact rfl; exact (by first | (with_reducible exact heap_1_0 _ _) | (with_reducible exact heap_2_0 _ _ _) | (with_reducible exact heap_2_1 _ _ _) | (with_reducible exact heap_3_0 _ _ _ _) | (with_reducible exact heap_3_1 _ _ _ _) | (with_reducible exact heap_3_2 _ _ _ _) | (with_reducible exact heap_4_0 _ _ _ _ _) | (with_reducible exact heap_4_1 _ _ _ _ _) | (with_reducible exact heap_4_2 _ _ _ _ _) | (with_reducible exact heap_4_3 _ _ _ _ _) | (with_reducible exact heap_5_0 _ _ _ _ _ _) | (with_reducible exact heap_5_1 _ _ _ _ _ _) | (with_reducible exact heap_5_2 _ _ _ _ _ _) | (with_reducible exact heap_5_3 _ _ _ _ _ _) | (with_reducible exact heap_5_4 _ _ _ _ _ _) | (with_reducible exact heap_6_0 _ _ _ _ _ _ _) | (with_reducible exact heap_6_1 _ _ _ _ _ _ _) | (with_reducible exact heap_6_2 _ _ _ _ _ _ _) | (with_reducible exact heap_6_3 _ _ _ _ _ _ _) | (with_reducible exact heap_6_4 _ _ _ _ _ _ _) | (with_reducible exact heap_6_5 _ _ _ _ _ _ _) | simp only [heap_alloc_past, heap_alloc_at, World.size_alloc, Nat.add_assoc, Nat.reduceAdd, Nat.lt_add_right_iff_pos, Nat.add_lt_add_iff_left, Nat.reduceLT, Nat.zero_lt_succ, Nat.lt_add_one]); (first | rw [row_1_0] | rw [row_2_0] | rw [row_2_1] | rw [row_3_0] | rw [row_3_1] | rw [row_3_2] | rw [row_4_0] | rw [row_4_1] | rw [row_4_2] | rw [row_4_3] | rw [row_5_0] | rw [row_5_1] | rw [row_5_2] | rw [row_5_3] | rw [row_5_4] | rw [row_6_0] | rw [row_6_1] | rw [row_6_2] | rw [row_6_3] | rw [row_6_4] | rw [row_6_5] | simp only [setRow_alloc_past, setRow_alloc_at, World.size_alloc, Nat.add_assoc, Nat.reduceAdd, Nat.lt_add_right_iff_pos, Nat.add_lt_add_iff_left, Nat.reduceLT, Nat.zero_lt_succ, Nat.lt_add_one])))
    generalize w7.alloc (.cells (Bits.num C) 41) = w8 at *
    obtain ⟨X, hX⟩ : ∃ X, X = w7.heap.size := ⟨_, rfl⟩
    obtain ⟨Y, hY⟩ : ∃ X, X = w2.heap.size := ⟨_, rfl⟩
    rw [← hX] at K3 hlt ⊢
    rw [← hY] at K2 ⊢
    clear hX hY
    have m2 := M2.out
    have a1 := A1.out
    have a2 := A2.out
    have o2 := O2.out
    have hn := HN.out
    have hst : Stab (fun w' => (Below w.heap.size w w' ∧ w'.heap[w.heap.size]? = some (.cells #[.int .u64 h, .int .u64 l] 36 (0, 0)) ∧ w'.heap[Y]? = some (.cells #[.int .u64 z, .int .u64 L] 36 (0, 0))) ∧ w'.heap[X]? = some (.cells (Bits.num C) 41 (0, 0))) :=
      stab_and (stab_and (stab_below (Nat.le_refl _)) (stab_and (stab_heap _ _) (stab_heap _ _))) (stab_heap _ _)
    refine wp_region_E mixed [10] hst ⟨⟨below_drew K0.out, K1.out, K2.out⟩, K3.out⟩ ?_
    refine wpAnyE_take 0 (v := .pointer (some ⟨Y, 1, none⟩)) rfl (by kernel_rfl) (by kernel_rfl) (by kernel_rfl) (fun _ _ _ h => h) hst (EffB.run rfl rfl (fun wd hS => ?_)) (.inr (EffB.run rfl rfl (fun wd hS => ?_))) ?_
    · (go_wp2; exact ⟨rfl, Below.refl _ _⟩)
    · (go_wp2; exact ⟨rfl, Below.refl _ _⟩)
    simp only [act_norm]
    refine wpAnyE_take 1 (v := .int .u64 L) rfl (by kernel_rfl) (by kernel_rfl) (by kernel_rfl) (fun _ _ _ h => h) hst (EffB.run rfl rfl (fun wd hS => ?_)) (.inl (by kernel_rfl)) ?_
    · (have c2 : wd.cell? ⟨Y, 1, none⟩ = some (.int .u64 L) := by rw [cell_of_row _ _ _ _ _ _ hS.1.2.2]; rfl); go_wp2; exact ⟨rfl, Below.refl _ _⟩
    simp only [act_norm]
    refine wpAnyE_take 2 rfl (by kernel_rfl) (by kernel_rfl) (by kernel_rfl) (fun _ _ _ h => h) hst (EffB.pure rfl (fun _ => rfl)) (.inr (EffB.pure rfl (fun _ => rfl))) ?_
    simp only [act_norm]
    refine wpAnyE_take 3 (v := .agg (Bits.num B)) rfl (by kernel_rfl) (by kernel_rfl) (by kernel_rfl) (fun _ _ _ h => h) hst (EffB.run rfl rfl (fun wd hS => ?_)) (.inl (by kernel_rfl)) ?_
    · (go_wp2_with fail; (with_reducible refine (m2 wd).mono ?_); rintro e w'' ⟨rfl, hb⟩; exact ⟨rfl, hb⟩)
    simp only [act_norm]
    refine wpAnyE_take 4 (v := .agg (Bits.num C)) rfl (by kernel_rfl) (by kernel_rfl) (by kernel_rfl) (fun _ _ _ h => h) hst (EffB.run rfl rfl (fun wd hS => ?_)) (.inl (by kernel_rfl)) ?_
    · exact wp_load_row 41 _ rfl X rfl 41 (Bits.num C) (0, 0) _ hS.2 Try.underlying41 rfl (by rw [Bits.num_size]; exact numInfo) ⟨rfl, Below.refl _ _⟩
    simp only [act_norm]
    refine wpAnyE_take 5 (v := .tuple #[.agg (Bits.num S), .bool true]) rfl (by kernel_rfl) (by kernel_rfl) (by kernel_rfl) (fun _ _ _ h => h) hst (EffB.run rfl rfl (fun wd hS => ?_)) (.inl (by kernel_rfl)) ?_
    · (go_wp2_with fail; (with_reducible refine (a1 wd).mono ?_); rintro e w'' ⟨rfl, hb⟩; exact ⟨rfl, hb⟩)
    simp only [act_norm]
    refine wpAnyE_take 6 rfl (by kernel_rfl) (by kernel_rfl) (by kernel_rfl) (fun _ _ _ h => h) hst (EffB.pure rfl (fun _ => rfl)) (.inr (EffB.pure rfl (fun _ => rfl))) ?_
    simp only [act_norm]
    refine wpAnyE_take 7 (v := .agg (Bits.num S)) rfl (by kernel_rfl) (by kernel_rfl) (by kernel_rfl) (fun _ _ _ h => h) hst (EffB.run rfl rfl (fun wd hS => ?_)) (.inr (EffB.run rfl rfl (fun wd hS => ?_))) ?_
    · (go_wp2; exact ⟨rfl, Below.refl _ _⟩)
    · (go_wp2; exact ⟨rfl, Below.refl _ _⟩)
    simp only [act_norm]
    refine wpAnyE_take 8 (v := .bool true) rfl (by kernel_rfl) (by kernel_rfl) (by kernel_rfl) (fun _ _ _ h => h) hst (EffB.run rfl rfl (fun wd hS => ?_)) (.inr (EffB.run rfl rfl (fun wd hS => ?_))) ?_
    · (go_wp2; exact ⟨rfl, Below.refl _ _⟩)
    · (go_wp2; exact ⟨rfl, Below.refl _ _⟩)
    simp only [act_norm]
    refine wpAnyE_one 9 rfl (by kernel_rfl) rfl (fun wd hS => ?_)
    refine wp_alloc_as 41 rfl (Bits.num 0) (numZero _) ?_
    refine ⟨fun w' => ((Below w.heap.size w w' ∧ w'.heap[w.heap.size]? = some (.cells #[.int .u64 h, .int .u64 l] 36 (0, 0)) ∧ w'.heap[Y]? = some (.cells #[.int .u64 z, .int .u64 L] 36 (0, 0))) ∧ w'.heap[X]? = some (.cells (Bits.num C) 41 (0, 0))) ∧ w'.heap[wd.heap.size]? = some (.cells (Bits.num 0) 41 (0, 0)),
      ⟨hst _ _ hS (below1 _ _), heap_alloc_at _ _ _ rfl⟩, stab_and hst (stab_heap _ _), .inr (fun _ h => h.1), ?_⟩
    have hst2 : Stab (fun w' => (Below w.heap.size w w' ∧ w'.heap[w.heap.size]? = some (.cells #[.int .u64 h, .int .u64 l] 36 (0, 0))) ∧ w'.heap[wd.heap.size]? = some (.cells (Bits.num S) 41 (0, 0))) := stab_and (stab_and (stab_below (Nat.le_refl _)) (stab_heap _ _)) (stab_heap _ _)
    have hlx := lt_of_heap hS.1.2.1
    obtain ⟨V, hV⟩ : ∃ V, V = wd.heap.size := ⟨_, rfl⟩
    rw [← hV] at hst2 hlx ⊢
    clear hV hS
    refine wpAnyE_one 10 rfl (by kernel_rfl) rfl (fun wd hS => ?_)
    refine wp_store_row 41 _ _ rfl V (Bits.num S) rfl rfl 41 (Bits.num 0) hS.2 (by rw [Bits.num_size]; exact numInfo) (by rw [Bits.num_size, Bits.num_size]) (num_oneCell _) ?_
    refine ⟨fun w' => (Below w.heap.size w w' ∧ w'.heap[w.heap.size]? = some (.cells #[.int .u64 h, .int .u64 l] 36 (0, 0))) ∧ w'.heap[V]? = some (.cells (Bits.num S) 41 (0, 0)),
      ⟨⟨below_setRow hS.1.1.1 (by omega) _, (setRow_other _ _ _ _ (by omega)).trans hS.1.1.2.1⟩, setRow_heap _ _ _ _ _ _ hS.2⟩, hst2, .inl (by simp), ?_⟩
    simp only [act_norm]
    clear hS hst
    have hst := hst2
    refine wpAnyE_take 11 rfl (by kernel_rfl) (by kernel_rfl) (by kernel_rfl) (fun _ _ _ h => h) hst (EffB.pure rfl (fun _ => rfl)) (.inr (EffB.pure rfl (fun _ => rfl))) ?_
    simp only [act_norm]
    refine wpAnyE_done (by kernel_rfl) (fun wd hS => ?_) _
    have HS := Lib.hid hS
    clear hS K0 K1 K2 K3
    go_wp2_with fail
    refine wp_region_E mixed [7] hst ⟨⟨below_drew HS.out.1.1, HS.out.1.2⟩, HS.out.2⟩ ?_
    refine wpAnyE_take 0 (v := .agg (Bits.num S)) rfl (by kernel_rfl) (by kernel_rfl) (by kernel_rfl) (fun _ _ _ h => h) hst (EffB.run rfl rfl (fun wd hS => ?_)) (.inl (by kernel_rfl)) ?_
    · exact wp_load_row 41 _ rfl V rfl 41 (Bits.num S) (0, 0) _ hS.2 Try.underlying41 rfl (by rw [Bits.num_size]; exact numInfo) ⟨rfl, Below.refl _ _⟩
    simp only [act_norm]
    refine wpAnyE_take 1 rfl (by kernel_rfl) (by kernel_rfl) (by kernel_rfl) (fun _ _ _ h => h) hst (EffB.pure rfl (fun _ => rfl)) (.inr (EffB.pure rfl (fun _ => rfl))) ?_
    simp only [act_norm]
    refine wpAnyE_take 2 (v := .agg (Bits.num r)) rfl (by kernel_rfl) (by kernel_rfl) (by kernel_rfl) (fun _ _ _ h => h) hst (EffB.run rfl rfl (fun wd hS => ?_)) (.inl (by kernel_rfl)) ?_
    · (go_wp2_with fail; (with_reducible refine (o2 wd).mono ?_); rintro e w'' ⟨rfl, hb⟩; exact ⟨rfl, hb⟩)
    simp only [act_norm]
    refine wpAnyE_take 3 (v := .tuple #[.agg (Bits.num x), .bool true]) rfl (by kernel_rfl) (by kernel_rfl) (by kernel_rfl) (fun _ _ _ h => h) hst (EffB.run rfl rfl (fun wd hS => ?_)) (.inl (by kernel_rfl)) ?_
    · (go_wp2_with fail; (with_reducible refine (a2 wd).mono ?_); rintro e w'' ⟨rfl, hb⟩; exact ⟨rfl, hb⟩)
    simp only [act_norm]
    refine wpAnyE_take 4 rfl (by kernel_rfl) (by kernel_rfl) (by kernel_rfl) (fun _ _ _ h => h) hst (EffB.pure rfl (fun _ => rfl)) (.inr (EffB.pure rfl (fun _ => rfl))) ?_
    simp only [act_norm]
    refine wpAnyE_take 5 (v := .agg (Bits.num x)) rfl (by kernel_rfl) (by kernel_rfl) (by kernel_rfl) (fun _ _ _ h => h) hst (EffB.run rfl rfl (fun wd hS => ?_)) (.inr (EffB.run rfl rfl (fun wd hS => ?_))) ?_
    · (go_wp2; exact ⟨rfl, Below.refl _ _⟩)
    · (go_wp2; exact ⟨rfl, Below.refl _ _⟩)
    simp only [act_norm]
    refine wpAnyE_take 6 (v := .bool true) rfl (by kernel_rfl) (by kernel_rfl) (by kernel_rfl) (fun _ _ _ h => h) hst (EffB.run rfl rfl (fun wd hS => ?_)) (.inr (EffB.run rfl rfl (fun wd hS => ?_))) ?_
    · (go_wp2; exact ⟨rfl, Below.refl _ _⟩)
    · (go_wp2; exact ⟨rfl, Below.refl _ _⟩)
    simp only [act_norm]
    refine wpAnyE_one 7 rfl (by kernel_rfl) rfl (fun wd hS => ?_)
    refine wp_store_row 41 _ _ rfl V (Bits.num x) rfl rfl 41 (Bits.num S) hS.2 (by rw [Bits.num_size]; exact numInfo) (by rw [Bits.num_size, Bits.num_size]) (num_oneCell _) ?_
    have hst3 : Stab (fun w' => (Below w.heap.size w w' ∧ w'.heap[w.heap.size]? = some (.cells #[.int .u64 h, .int .u64 l] 36 (0, 0))) ∧ w'.heap[V]? = some (.cells (Bits.num x) 41 (0, 0))) := stab_and (stab_and (stab_below (Nat.le_refl _)) (stab_heap _ _)) (stab_heap _ _)
    refine ⟨fun w' => (Below w.heap.size w w' ∧ w'.heap[w.heap.size]? = some (.cells #[.int .u64 h, .int .u64 l] 36 (0, 0))) ∧ w'.heap[V]? = some (.cells (Bits.num x) 41 (0, 0)),
      ⟨⟨below_setRow hS.1.1 (by omega) _, (setRow_other _ _ _ _ (by omega)).trans hS.1.2⟩, setRow_heap _ _ _ _ _ _ hS.2⟩, hst3, .inl (by simp), ?_⟩
    simp only [act_norm]
    clear hS hst hst2 HS
    have hst := hst3
    refine wpAnyE_take 8 rfl (by kernel_rfl) (by kernel_rfl) (by kernel_rfl) (fun _ _ _ h => h) hst (EffB.pure rfl (fun _ => rfl)) (.inr (EffB.pure rfl (fun _ => rfl))) ?_
    simp only [act_norm]
    refine wpAnyE_done (by kernel_rfl) (fun wd hS => ?_) _
    have HS := Lib.hid hS
    clear hS
    go_wp2_with fail
    refine wp_region_E mixed [7] hst ⟨⟨below_drew HS.out.1.1, HS.out.1.2⟩, HS.out.2⟩ ?_
    refine wpAnyE_take 0 rfl (by kernel_rfl) (by kernel_rfl) (by kernel_rfl) (fun _ _ _ h => h) hst (EffB.pure rfl (fun _ => rfl)) (.inr (EffB.pure rfl (fun _ => rfl))) ?_
    simp only [act_norm]
    refine wpAnyE_take 1 rfl (by kernel_rfl) (by kernel_rfl) (by kernel_rfl) (fun _ _ _ h => h) hst (EffB.pure rfl (fun _ => rfl)) (.inr (EffB.pure rfl (fun _ => rfl))) ?_
    simp only [act_norm]
    refine wpAnyE_take 2 (v := .agg (Bits.num x)) rfl (by kernel_rfl) (by kernel_rfl) (by kernel_rfl) (fun _ _ _ h => h) hst (EffB.run rfl rfl (fun wd hS => ?_)) (.inl (by kernel_rfl)) ?_
    · exact wp_load_row 41 _ rfl V rfl 41 (Bits.num x) (0, 0) _ hS.2 Try.underlying41 rfl (by rw [Bits.num_size]; exact numInfo) ⟨rfl, Below.refl _ _⟩
    simp only [act_norm]
    refine wpAnyE_take 3 (v := .agg #[.int .u64 h, .int .u64 l]) rfl (by kernel_rfl) (by kernel_rfl) (by kernel_rfl) (fun _ _ _ h => h) hst (EffB.run rfl rfl (fun wd hS => ?_)) (.inl (by kernel_rfl)) ?_
    · exact wp_load_row 36 _ rfl w.heap.size rfl 36 #[.int .u64 h, .int .u64 l] (0, 0) _ hS.1.2 Try.underlying36 rfl twoInfo ⟨rfl, Below.refl _ _⟩
    simp only [act_norm]
    refine wpAnyE_take 4 (v := .agg (Bits.num x)) rfl (by kernel_rfl) (by kernel_rfl) (by kernel_rfl) (fun _ _ _ h => h) hst (EffB.run rfl rfl (fun wd hS => ?_)) (.inl (by kernel_rfl)) ?_
    · (go_wp2_with fail; (with_reducible refine (hn wd).mono ?_); rintro e w'' ⟨rfl, hb⟩; exact ⟨rfl, hb⟩)
    simp only [act_norm]
    refine wpAnyE_take 5 (v := .bool true) rfl (by kernel_rfl) (by kernel_rfl) (by kernel_rfl) (fun _ _ _ h => h) hst (EffB.run rfl rfl (fun wd hS => ?_)) (.inl (by kernel_rfl)) ?_
    · exact wp_eql_agg 41 41 _ _ rfl (Bits.num x) (Bits.num x) rfl rfl true (by kernel_rfl) (num_equal x _) ⟨rfl, Below.refl _ _⟩
    simp only [act_norm]
    refine wpAnyE_take 6 (v := .bool true) rfl (by kernel_rfl) (by kernel_rfl) (by kernel_rfl) (fun _ _ _ h => h) hst (EffB.run rfl rfl (fun wd hS => ?_)) (.inr (EffB.run rfl rfl (fun wd hS => ?_))) ?_
    · (go_wp2; exact ⟨rfl, Below.refl _ _⟩)
    · (go_wp2; exact ⟨rfl, Below.refl _ _⟩)
    simp only [act_norm]
    refine wpAnyE_take 7 (v := .bool true) rfl (by kernel_rfl) (by kernel_rfl) (by kernel_rfl) (fun _ _ _ h => h) hst (EffB.run rfl rfl (fun wd hS => ?_)) (.inr (EffB.run rfl rfl (fun wd hS => ?_))) ?_
    · (go_wp2; exact ⟨rfl, Below.refl _ _⟩)
    · (go_wp2; exact ⟨rfl, Below.refl _ _⟩)
    simp only [act_norm]
    refine wpAnyE_done (by kernel_rfl) (fun wd hS => ?_) _
    go_wp2
    go_ret
    exact ⟨rfl, hS.1.1⟩

theorem wideDivides_walk (h l : Nat) (hh : h < 18446744073709551616) (hl : l < 18446744073709551616) (d : Nat) (hd2 : d < 18446744073709551616) (w : World) :
    Calls Try.prog 9 #[.agg #[.int .u64 h, .int .u64 l], .int .u64 d] w fun e w' => e = .returned (.bool true) ∧ Below w.heap.size w w' := by
  by_cases h0 : d = 0
  · subst h0
    exact wideDivides_zero h l w
  · exact wideDivides_pos h l hh hl d (by omega) hd2 w
end Go.Proofs.Ythlcjigpccmbmaa
