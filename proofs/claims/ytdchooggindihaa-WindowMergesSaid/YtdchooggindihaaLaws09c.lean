/- Layer 9: two of what is told, as one; walked. -/
import Derived.Test.YtdchooggindihaaLaws09b
namespace Go.Proofs.Ytdchooggindihaa
open Go.ChangeShapes Go.WideShapes Go.ChangeAt Go.RowKit

set_option maxHeartbeats 4000000 in
set_option maxRecDepth 100000 in
theorem merges_left (p q : Option Addr) (cp cq n k : Nat) (l m : List Samp) (b0 b1 b2 b3 b4 : Int) (h60 : ¬ 60 < n) (h61 : ¬ 60 < k)
    (s1 : ∀ W : World, Samps W p l → Calls Try.prog 24 #[.slice p n cp] W fun e w' => e = .returned (.agg #[.int .i64 0, .int .i64 0, .int .i64 0, .int .i64 0, .int .i64 0]) ∧ Below W.heap.size W w')
    (s2 : ∀ W : World, Samps W q m → Calls Try.prog 24 #[.slice q k cq] W fun e w' => e = .returned (.agg #[.int .i64 b0, .int .i64 b1, .int .i64 b2, .int .i64 b3, .int .i64 b4]) ∧ Below W.heap.size W w')
    (mg : ∀ W : World, Calls Try.prog 26 #[.agg #[.int .i64 0, .int .i64 0, .int .i64 0, .int .i64 0, .int .i64 0], .agg #[.int .i64 b0, .int .i64 b1, .int .i64 b2, .int .i64 b3, .int .i64 b4]] W fun e w' => e = .returned (.agg #[.int .i64 b0, .int .i64 b1, .int .i64 b2, .int .i64 b3, .int .i64 b4]) ∧ Below W.heap.size W w')
    (w : World) (hs : Samps w p l) (ht : Samps w q m) :
    Calls Try.prog 5 #[.slice p n cp, .slice q k cq] w fun e w' => e = .returned (.bool true) ∧ Below w.heap.size w w' := by
  have S1 := Lib.hid s1
  have S2 := Lib.hid s2
  have MG := Lib.hid mg
  have HS := Lib.hid hs
  have HT := Lib.hid ht
  clear s1 s2 mg hs ht
  go_enter Try.func5, Try.ntmps5
  go_wp2_with fail
  (with_reducible refine (awake09 _).mono ?_)
  rintro e w1 ⟨rfl, hb1⟩
  have HB := Lib.hid hb1
  clear hb1
  go_wp2_with fail
  (with_reducible refine (S1.out _ (HS.out.below HB.out)).mono ?_)
  rintro e w2 ⟨rfl, hb2⟩
  have HB2 := Lib.hid (HB.out.trans (hb2.mono HB.out.size))
  clear hb2 HB
  go_wp2_with fail
  (with_reducible refine (S2.out _ (HT.out.below HB2.out)).mono ?_)
  rintro e w3 ⟨rfl, hb3⟩
  have HB3 := Lib.hid (HB2.out.trans (hb3.mono HB2.out.size))
  clear hb3 HB2
  go_wp2_with (first | ((with_reducible refine wpList_store_rowAs rfl 32 _ _ rfl (w3.heap.size) #[.int .i64 0, .int .i64 0, .int .i64 0, .int .i64 0, .int .i64 0] ?_ ?_ 32 #[.int .i64 0, .int .i64 0, .int .i64 0, .int .i64 0, .int .i64 0] 5 ?_ (by kernel_rfl) rfl rfl (by simp [Value.oneCell']) ?_); exact rfl; exact rfl; exact (by first | (with_reducible exact heap_1_0 _ _) | (with_reducible exact heap_2_0 _ _ _) | (with_reducible exact heap_2_1 _ _ _) | (with_reducible exact heap_3_0 _ _ _ _) | (with_reducible exact heap_3_1 _ _ _ _) | (with_reducible exact heap_3_2 _ _ _ _) | (with_reducible exact heap_4_0 _ _ _ _ _) | (with_reducible exact heap_4_1 _ _ _ _ _) | (with_reducible exact heap_4_2 _ _ _ _ _) | (with_reducible exact heap_4_3 _ _ _ _ _) | (with_reducible exact heap_5_0 _ _ _ _ _ _) | (with_reducible exact heap_5_1 _ _ _ _ _ _) | (with_reducible exact heap_5_2 _ _ _ _ _ _) | (with_reducible exact heap_5_3 _ _ _ _ _ _) | (with_reducible exact heap_5_4 _ _ _ _ _ _) | (with_reducible exact heap_6_0 _ _ _ _ _ _ _) | (with_reducible exact heap_6_1 _ _ _ _ _ _ _) | (with_reducible exact heap_6_2 _ _ _ _ _ _ _) | (with_reducible exact heap_6_3 _ _ _ _ _ _ _) | (with_reducible exact heap_6_4 _ _ _ _ _ _ _) | (with_reducible exact heap_6_5 _ _ _ _ _ _ _) | simp only [heap_alloc_past, heap_alloc_at, World.size_alloc, Nat.add_assoc, Nat.reduceAdd, Nat.lt_add_right_iff_pos, Nat.add_lt_add_iff_left, Nat.reduceLT, Nat.zero_lt_succ, Nat.lt_add_one]); (first | rw [row_1_0] | rw [row_2_0] | rw [row_2_1] | rw [row_3_0] | rw [row_3_1] | rw [row_3_2] | rw [row_4_0] | rw [row_4_1] | rw [row_4_2] | rw [row_4_3] | rw [row_5_0] | rw [row_5_1] | rw [row_5_2] | rw [row_5_3] | rw [row_5_4] | rw [row_6_0] | rw [row_6_1] | rw [row_6_2] | rw [row_6_3] | rw [row_6_4] | rw [row_6_5] | simp only [setRow_alloc_past, setRow_alloc_at, World.size_alloc, Nat.add_assoc, Nat.reduceAdd, Nat.lt_add_right_iff_pos, Nat.add_lt_add_iff_left, Nat.reduceLT, Nat.zero_lt_succ, Nat.lt_add_one])) | ((with_reducible refine wpList_store_rowAs rfl 32 _ _ rfl ((w3.heap.size + 1)) #[.int .i64 b0, .int .i64 b1, .int .i64 b2, .int .i64 b3, .int .i64 b4] ?_ ?_ 32 #[.int .i64 0, .int .i64 0, .int .i64 0, .int .i64 0, .int .i64 0] 5 ?_ (by kernel_rfl) rfl rfl (by simp [Value.oneCell']) ?_); exact rfl; exact rfl; exact (by first | (with_reducible exact heap_1_0 _ _) | (with_reducible exact heap_2_0 _ _ _) | (with_reducible exact heap_2_1 _ _ _) | (with_reducible exact heap_3_0 _ _ _ _) | (with_reducible exact heap_3_1 _ _ _ _) | (with_reducible exact heap_3_2 _ _ _ _) | (with_reducible exact heap_4_0 _ _ _ _ _) | (with_reducible exact heap_4_1 _ _ _ _ _) | (with_reducible exact heap_4_2 _ _ _ _ _) | (with_reducible exact heap_4_3 _ _ _ _ _) | (with_reducible exact heap_5_0 _ _ _ _ _ _) | (with_reducible exact heap_5_1 _ _ _ _ _ _) | (with_reducible exact heap_5_2 _ _ _ _ _ _) | (with_reducible exact heap_5_3 _ _ _ _ _ _) | (with_reducible exact heap_5_4 _ _ _ _ _ _) | (with_reducible exact heap_6_0 _ _ _ _ _ _ _) | (with_reducible exact heap_6_1 _ _ _ _ _ _ _) | (with_reducible exact heap_6_2 _ _ _ _ _ _ _) | (with_reducible exact heap_6_3 _ _ _ _ _ _ _) | (with_reducible exact heap_6_4 _ _ _ _ _ _ _) | (with_reducible exact heap_6_5 _ _ _ _ _ _ _) | simp only [heap_alloc_past, heap_alloc_at, World.size_alloc, Nat.add_assoc, Nat.reduceAdd, Nat.lt_add_right_iff_pos, Nat.add_lt_add_iff_left, Nat.reduceLT, Nat.zero_lt_succ, Nat.lt_add_one]); (first | rw [row_1_0] | rw [row_2_0] | rw [row_2_1] | rw [row_3_0] | rw [row_3_1] | rw [row_3_2] | rw [row_4_0] | rw [row_4_1] | rw [row_4_2] | rw [row_4_3] | rw [row_5_0] | rw [row_5_1] | rw [row_5_2] | rw [row_5_3] | rw [row_5_4] | rw [row_6_0] | rw [row_6_1] | rw [row_6_2] | rw [row_6_3] | rw [row_6_4] | rw [row_6_5] | simp only [setRow_alloc_past, setRow_alloc_at, World.size_alloc, Nat.add_assoc, Nat.reduceAdd, Nat.lt_add_right_iff_pos, Nat.add_lt_add_iff_left, Nat.reduceLT, Nat.zero_lt_succ, Nat.lt_add_one])) | ((with_reducible refine wpList_load_rowAs rfl 32 _ rfl (w3.heap.size) ?_ 32 #[.int .i64 0, .int .i64 0, .int .i64 0, .int .i64 0, .int .i64 0] (0, 0) _ 5 ?_ Try.underlying32 rfl (by kernel_rfl) ?_ ?_); exact rfl; exact (by first | (with_reducible exact heap_1_0 _ _) | (with_reducible exact heap_2_0 _ _ _) | (with_reducible exact heap_2_1 _ _ _) | (with_reducible exact heap_3_0 _ _ _ _) | (with_reducible exact heap_3_1 _ _ _ _) | (with_reducible exact heap_3_2 _ _ _ _) | (with_reducible exact heap_4_0 _ _ _ _ _) | (with_reducible exact heap_4_1 _ _ _ _ _) | (with_reducible exact heap_4_2 _ _ _ _ _) | (with_reducible exact heap_4_3 _ _ _ _ _) | (with_reducible exact heap_5_0 _ _ _ _ _ _) | (with_reducible exact heap_5_1 _ _ _ _ _ _) | (with_reducible exact heap_5_2 _ _ _ _ _ _) | (with_reducible exact heap_5_3 _ _ _ _ _ _) | (with_reducible exact heap_5_4 _ _ _ _ _ _) | (with_reducible exact heap_6_0 _ _ _ _ _ _ _) | (with_reducible exact heap_6_1 _ _ _ _ _ _ _) | (with_reducible exact heap_6_2 _ _ _ _ _ _ _) | (with_reducible exact heap_6_3 _ _ _ _ _ _ _) | (with_reducible exact heap_6_4 _ _ _ _ _ _ _) | (with_reducible exact heap_6_5 _ _ _ _ _ _ _) | simp only [heap_alloc_past, heap_alloc_at, World.size_alloc, Nat.add_assoc, Nat.reduceAdd, Nat.lt_add_right_iff_pos, Nat.add_lt_add_iff_left, Nat.reduceLT, Nat.zero_lt_succ, Nat.lt_add_one]); exact rfl) | ((with_reducible refine wpList_load_rowAs rfl 32 _ rfl ((w3.heap.size + 1)) ?_ 32 #[.int .i64 b0, .int .i64 b1, .int .i64 b2, .int .i64 b3, .int .i64 b4] (0, 0) _ 5 ?_ Try.underlying32 rfl (by kernel_rfl) ?_ ?_); exact rfl; exact (by first | (with_reducible exact heap_1_0 _ _) | (with_reducible exact heap_2_0 _ _ _) | (with_reducible exact heap_2_1 _ _ _) | (with_reducible exact heap_3_0 _ _ _ _) | (with_reducible exact heap_3_1 _ _ _ _) | (with_reducible exact heap_3_2 _ _ _ _) | (with_reducible exact heap_4_0 _ _ _ _ _) | (with_reducible exact heap_4_1 _ _ _ _ _) | (with_reducible exact heap_4_2 _ _ _ _ _) | (with_reducible exact heap_4_3 _ _ _ _ _) | (with_reducible exact heap_5_0 _ _ _ _ _ _) | (with_reducible exact heap_5_1 _ _ _ _ _ _) | (with_reducible exact heap_5_2 _ _ _ _ _ _) | (with_reducible exact heap_5_3 _ _ _ _ _ _) | (with_reducible exact heap_5_4 _ _ _ _ _ _) | (with_reducible exact heap_6_0 _ _ _ _ _ _ _) | (with_reducible exact heap_6_1 _ _ _ _ _ _ _) | (with_reducible exact heap_6_2 _ _ _ _ _ _ _) | (with_reducible exact heap_6_3 _ _ _ _ _ _ _) | (with_reducible exact heap_6_4 _ _ _ _ _ _ _) | (with_reducible exact heap_6_5 _ _ _ _ _ _ _) | simp only [heap_alloc_past, heap_alloc_at, World.size_alloc, Nat.add_assoc, Nat.reduceAdd, Nat.lt_add_right_iff_pos, Nat.add_lt_add_iff_left, Nat.reduceLT, Nat.zero_lt_succ, Nat.lt_add_one]); exact rfl))
  (with_reducible refine (MG.out _).mono ?_)
  rintro e w6 ⟨rfl, hb6⟩
  have k5 : w6.heap[w3.heap.size]? = some (.cells #[.int .i64 0, .int .i64 0, .int .i64 0, .int .i64 0, .int .i64 0] 32 (0, 0)) := by rw [hb6.block _ (by simp only [World.size_alloc]; omega)]; exact (by first | (with_reducible exact heap_1_0 _ _) | (with_reducible exact heap_2_0 _ _ _) | (with_reducible exact heap_2_1 _ _ _) | (with_reducible exact heap_3_0 _ _ _ _) | (with_reducible exact heap_3_1 _ _ _ _) | (with_reducible exact heap_3_2 _ _ _ _) | (with_reducible exact heap_4_0 _ _ _ _ _) | (with_reducible exact heap_4_1 _ _ _ _ _) | (with_reducible exact heap_4_2 _ _ _ _ _) | (with_reducible exact heap_4_3 _ _ _ _ _) | (with_reducible exact heap_5_0 _ _ _ _ _ _) | (with_reducible exact heap_5_1 _ _ _ _ _ _) | (with_reducible exact heap_5_2 _ _ _ _ _ _) | (with_reducible exact heap_5_3 _ _ _ _ _ _) | (with_reducible exact heap_5_4 _ _ _ _ _ _) | (with_reducible exact heap_6_0 _ _ _ _ _ _ _) | (with_reducible exact heap_6_1 _ _ _ _ _ _ _) | (with_reducible exact heap_6_2 _ _ _ _ _ _ _) | (with_reducible exact heap_6_3 _ _ _ _ _ _ _) | (with_reducible exact heap_6_4 _ _ _ _ _ _ _) | (with_reducible exact heap_6_5 _ _ _ _ _ _ _) | simp only [heap_alloc_past, heap_alloc_at, World.size_alloc, Nat.add_assoc, Nat.reduceAdd, Nat.lt_add_right_iff_pos, Nat.add_lt_add_iff_left, Nat.reduceLT, Nat.zero_lt_succ, Nat.lt_add_one])
  have k6 : w6.heap[w3.heap.size + 1]? = some (.cells #[.int .i64 b0, .int .i64 b1, .int .i64 b2, .int .i64 b3, .int .i64 b4] 32 (0, 0)) := by rw [hb6.block _ (by simp only [World.size_alloc]; omega)]; exact (by first | (with_reducible exact heap_1_0 _ _) | (with_reducible exact heap_2_0 _ _ _) | (with_reducible exact heap_2_1 _ _ _) | (with_reducible exact heap_3_0 _ _ _ _) | (with_reducible exact heap_3_1 _ _ _ _) | (with_reducible exact heap_3_2 _ _ _ _) | (with_reducible exact heap_4_0 _ _ _ _ _) | (with_reducible exact heap_4_1 _ _ _ _ _) | (with_reducible exact heap_4_2 _ _ _ _ _) | (with_reducible exact heap_4_3 _ _ _ _ _) | (with_reducible exact heap_5_0 _ _ _ _ _ _) | (with_reducible exact heap_5_1 _ _ _ _ _ _) | (with_reducible exact heap_5_2 _ _ _ _ _ _) | (with_reducible exact heap_5_3 _ _ _ _ _ _) | (with_reducible exact heap_5_4 _ _ _ _ _ _) | (with_reducible exact heap_6_0 _ _ _ _ _ _ _) | (with_reducible exact heap_6_1 _ _ _ _ _ _ _) | (with_reducible exact heap_6_2 _ _ _ _ _ _ _) | (with_reducible exact heap_6_3 _ _ _ _ _ _ _) | (with_reducible exact heap_6_4 _ _ _ _ _ _ _) | (with_reducible exact heap_6_5 _ _ _ _ _ _ _) | simp only [heap_alloc_past, heap_alloc_at, World.size_alloc, Nat.add_assoc, Nat.reduceAdd, Nat.lt_add_right_iff_pos, Nat.add_lt_add_iff_left, Nat.reduceLT, Nat.zero_lt_succ, Nat.lt_add_one])
  have hb7 : Below w.heap.size w w6 := ((HB3.out.alloc HB3.out.size (.cells #[.int .i64 0, .int .i64 0, .int .i64 0, .int .i64 0, .int .i64 0] 32)).alloc (by have := HB3.out.size; simp; omega) (.cells #[.int .i64 b0, .int .i64 b1, .int .i64 b2, .int .i64 b3, .int .i64 b4] 32)).trans (hb6.mono (by have := HB3.out.size; simp; omega))
  obtain ⟨X, hX⟩ : ∃ X, X = w3.heap.size := ⟨_, rfl⟩
  rw [← hX] at k5 k6 ⊢
  have l6 := lt_of_heap k6
  have K5 := Lib.hid ((heap_alloc_past w6 (.cells #[.int .i64 b0, .int .i64 b1, .int .i64 b2, .int .i64 b3, .int .i64 b4] 32) X (by omega)).trans k5)
  have K6 := Lib.hid ((heap_alloc_past w6 (.cells #[.int .i64 b0, .int .i64 b1, .int .i64 b2, .int .i64 b3, .int .i64 b4] 32) (X + 1) l6).trans k6)
  have K7 := Lib.hid (heap_alloc_at w6 (.cells #[.int .i64 b0, .int .i64 b1, .int .i64 b2, .int .i64 b3, .int .i64 b4] 32) _ rfl)
  have HB7 := Lib.hid (hb7.alloc hb7.size (.cells #[.int .i64 b0, .int .i64 b1, .int .i64 b2, .int .i64 b3, .int .i64 b4] 32))
  have r5 : (w6.alloc (.cells #[.int .i64 b0, .int .i64 b1, .int .i64 b2, .int .i64 b3, .int .i64 b4] 32)).cell? ⟨X, 0, none⟩ = some (.int .i64 0) := by rw [cell_of_row _ _ _ _ _ _ K5.out]; rfl
  have r6 : (w6.alloc (.cells #[.int .i64 b0, .int .i64 b1, .int .i64 b2, .int .i64 b3, .int .i64 b4] 32)).cell? ⟨X + 1, 0, none⟩ = some (.int .i64 b0) := by rw [cell_of_row _ _ _ _ _ _ K6.out]; rfl
  clear k5 k6 hb6 hX l6 hb7 HB3 S1 S2 MG
  go_wp2_with (first | ((with_reducible refine wpList_store_rowAs rfl 32 _ _ rfl (w6.heap.size) #[.int .i64 b0, .int .i64 b1, .int .i64 b2, .int .i64 b3, .int .i64 b4] ?_ ?_ 32 #[.int .i64 0, .int .i64 0, .int .i64 0, .int .i64 0, .int .i64 0] 5 ?_ (by kernel_rfl) rfl rfl (by simp [Value.oneCell']) ?_); exact rfl; exact rfl; exact (heap_alloc_at _ _ _ rfl); (first | rw [row_1_0] | rw [row_2_0] | rw [row_2_1] | rw [row_3_0] | rw [row_3_1] | rw [row_3_2] | rw [row_4_0] | rw [row_4_1] | rw [row_4_2] | rw [row_4_3] | rw [row_5_0] | rw [row_5_1] | rw [row_5_2] | rw [row_5_3] | rw [row_5_4] | rw [row_6_0] | rw [row_6_1] | rw [row_6_2] | rw [row_6_3] | rw [row_6_4] | rw [row_6_5] | simp only [setRow_alloc_past, setRow_alloc_at, World.size_alloc, Nat.add_assoc, Nat.reduceAdd, Nat.lt_add_right_iff_pos, Nat.add_lt_add_iff_left, Nat.reduceLT, Nat.zero_lt_succ, Nat.lt_add_one])) | ((with_reducible refine wpList_load_rowAs rfl 32 _ rfl (w6.heap.size) ?_ 32 #[.int .i64 b0, .int .i64 b1, .int .i64 b2, .int .i64 b3, .int .i64 b4] (0, 0) _ 5 ?_ Try.underlying32 rfl (by kernel_rfl) ?_ ?_); exact rfl; exact K7.out; exact rfl) | ((with_reducible refine wpList_load_rowAs rfl 32 _ rfl (X) ?_ 32 #[.int .i64 0, .int .i64 0, .int .i64 0, .int .i64 0, .int .i64 0] (0, 0) _ 5 ?_ Try.underlying32 rfl (by kernel_rfl) ?_ ?_); exact rfl; exact K5.out; exact rfl) | ((with_reducible refine wpList_load_rowAs rfl 32 _ rfl ((X + 1)) ?_ 32 #[.int .i64 b0, .int .i64 b1, .int .i64 b2, .int .i64 b3, .int .i64 b4] (0, 0) _ 5 ?_ Try.underlying32 rfl (by kernel_rfl) ?_ ?_); exact rfl; exact K6.out; exact rfl))
  go_ret
  exact ⟨rfl, HB7.out⟩

set_option maxHeartbeats 4000000 in
set_option maxRecDepth 100000 in
theorem merges_right (p q : Option Addr) (cp cq n k : Nat) (l m : List Samp) (a1 a2 a3 a4 : Int) (h60 : ¬ 60 < n) (h61 : ¬ 60 < k)
    (s1 : ∀ W : World, Samps W p l → Calls Try.prog 24 #[.slice p n cp] W fun e w' => e = .returned (.agg #[.int .i64 (n : Int), .int .i64 a1, .int .i64 a2, .int .i64 a3, .int .i64 a4]) ∧ Below W.heap.size W w')
    (s2 : ∀ W : World, Samps W q m → Calls Try.prog 24 #[.slice q k cq] W fun e w' => e = .returned (.agg #[.int .i64 0, .int .i64 0, .int .i64 0, .int .i64 0, .int .i64 0]) ∧ Below W.heap.size W w')
    (mg : ∀ W : World, Calls Try.prog 26 #[.agg #[.int .i64 (n : Int), .int .i64 a1, .int .i64 a2, .int .i64 a3, .int .i64 a4], .agg #[.int .i64 0, .int .i64 0, .int .i64 0, .int .i64 0, .int .i64 0]] W fun e w' => e = .returned (.agg #[.int .i64 (n : Int), .int .i64 a1, .int .i64 a2, .int .i64 a3, .int .i64 a4]) ∧ Below W.heap.size W w')
    (hn : 0 < n)
    (w : World) (hs : Samps w p l) (ht : Samps w q m) :
    Calls Try.prog 5 #[.slice p n cp, .slice q k cq] w fun e w' => e = .returned (.bool true) ∧ Below w.heap.size w w' := by
  have S1 := Lib.hid s1
  have S2 := Lib.hid s2
  have MG := Lib.hid mg
  have HS := Lib.hid hs
  have HT := Lib.hid ht
  clear s1 s2 mg hs ht
  have d0 : ((n : Int) == 0) = false := beq_eq_false_iff_ne.2 (by omega)
  go_enter Try.func5, Try.ntmps5
  go_wp2_with fail
  (with_reducible refine (awake09 _).mono ?_)
  rintro e w1 ⟨rfl, hb1⟩
  have HB := Lib.hid hb1
  clear hb1
  go_wp2_with fail
  (with_reducible refine (S1.out _ (HS.out.below HB.out)).mono ?_)
  rintro e w2 ⟨rfl, hb2⟩
  have HB2 := Lib.hid (HB.out.trans (hb2.mono HB.out.size))
  clear hb2 HB
  go_wp2_with fail
  (with_reducible refine (S2.out _ (HT.out.below HB2.out)).mono ?_)
  rintro e w3 ⟨rfl, hb3⟩
  have HB3 := Lib.hid (HB2.out.trans (hb3.mono HB2.out.size))
  clear hb3 HB2
  go_wp2_with (first | ((with_reducible refine wpList_store_rowAs rfl 32 _ _ rfl (w3.heap.size) #[.int .i64 (n : Int), .int .i64 a1, .int .i64 a2, .int .i64 a3, .int .i64 a4] ?_ ?_ 32 #[.int .i64 0, .int .i64 0, .int .i64 0, .int .i64 0, .int .i64 0] 5 ?_ (by kernel_rfl) rfl rfl (by simp [Value.oneCell']) ?_); exact rfl; exact rfl; exact (by first | (with_reducible exact heap_1_0 _ _) | (with_reducible exact heap_2_0 _ _ _) | (with_reducible exact heap_2_1 _ _ _) | (with_reducible exact heap_3_0 _ _ _ _) | (with_reducible exact heap_3_1 _ _ _ _) | (with_reducible exact heap_3_2 _ _ _ _) | (with_reducible exact heap_4_0 _ _ _ _ _) | (with_reducible exact heap_4_1 _ _ _ _ _) | (with_reducible exact heap_4_2 _ _ _ _ _) | (with_reducible exact heap_4_3 _ _ _ _ _) | (with_reducible exact heap_5_0 _ _ _ _ _ _) | (with_reducible exact heap_5_1 _ _ _ _ _ _) | (with_reducible exact heap_5_2 _ _ _ _ _ _) | (with_reducible exact heap_5_3 _ _ _ _ _ _) | (with_reducible exact heap_5_4 _ _ _ _ _ _) | (with_reducible exact heap_6_0 _ _ _ _ _ _ _) | (with_reducible exact heap_6_1 _ _ _ _ _ _ _) | (with_reducible exact heap_6_2 _ _ _ _ _ _ _) | (with_reducible exact heap_6_3 _ _ _ _ _ _ _) | (with_reducible exact heap_6_4 _ _ _ _ _ _ _) | (with_reducible exact heap_6_5 _ _ _ _ _ _ _) | simp only [heap_alloc_past, heap_alloc_at, World.size_alloc, Nat.add_assoc, Nat.reduceAdd, Nat.lt_add_right_iff_pos, Nat.add_lt_add_iff_left, Nat.reduceLT, Nat.zero_lt_succ, Nat.lt_add_one]); (first | rw [row_1_0] | rw [row_2_0] | rw [row_2_1] | rw [row_3_0] | rw [row_3_1] | rw [row_3_2] | rw [row_4_0] | rw [row_4_1] | rw [row_4_2] | rw [row_4_3] | rw [row_5_0] | rw [row_5_1] | rw [row_5_2] | rw [row_5_3] | rw [row_5_4] | rw [row_6_0] | rw [row_6_1] | rw [row_6_2] | rw [row_6_3] | rw [row_6_4] | rw [row_6_5] | simp only [setRow_alloc_past, setRow_alloc_at, World.size_alloc, Nat.add_assoc, Nat.reduceAdd, Nat.lt_add_right_iff_pos, Nat.add_lt_add_iff_left, Nat.reduceLT, Nat.zero_lt_succ, Nat.lt_add_one])) | ((with_reducible refine wpList_store_rowAs rfl 32 _ _ rfl ((w3.heap.size + 1)) #[.int .i64 0, .int .i64 0, .int .i64 0, .int .i64 0, .int .i64 0] ?_ ?_ 32 #[.int .i64 0, .int .i64 0, .int .i64 0, .int .i64 0, .int .i64 0] 5 ?_ (by kernel_rfl) rfl rfl (by simp [Value.oneCell']) ?_); exact rfl; exact rfl; exact (by first | (with_reducible exact heap_1_0 _ _) | (with_reducible exact heap_2_0 _ _ _) | (with_reducible exact heap_2_1 _ _ _) | (with_reducible exact heap_3_0 _ _ _ _) | (with_reducible exact heap_3_1 _ _ _ _) | (with_reducible exact heap_3_2 _ _ _ _) | (with_reducible exact heap_4_0 _ _ _ _ _) | (with_reducible exact heap_4_1 _ _ _ _ _) | (with_reducible exact heap_4_2 _ _ _ _ _) | (with_reducible exact heap_4_3 _ _ _ _ _) | (with_reducible exact heap_5_0 _ _ _ _ _ _) | (with_reducible exact heap_5_1 _ _ _ _ _ _) | (with_reducible exact heap_5_2 _ _ _ _ _ _) | (with_reducible exact heap_5_3 _ _ _ _ _ _) | (with_reducible exact heap_5_4 _ _ _ _ _ _) | (with_reducible exact heap_6_0 _ _ _ _ _ _ _) | (with_reducible exact heap_6_1 _ _ _ _ _ _ _) | (with_reducible exact heap_6_2 _ _ _ _ _ _ _) | (with_reducible exact heap_6_3 _ _ _ _ _ _ _) | (with_reducible exact heap_6_4 _ _ _ _ _ _ _) | (with_reducible exact heap_6_5 _ _ _ _ _ _ _) | simp only [heap_alloc_past, heap_alloc_at, World.size_alloc, Nat.add_assoc, Nat.reduceAdd, Nat.lt_add_right_iff_pos, Nat.add_lt_add_iff_left, Nat.reduceLT, Nat.zero_lt_succ, Nat.lt_add_one]); (first | rw [row_1_0] | rw [row_2_0] | rw [row_2_1] | rw [row_3_0] | rw [row_3_1] | rw [row_3_2] | rw [row_4_0] | rw [row_4_1] | rw [row_4_2] | rw [row_4_3] | rw [row_5_0] | rw [row_5_1] | rw [row_5_2] | rw [row_5_3] | rw [row_5_4] | rw [row_6_0] | rw [row_6_1] | rw [row_6_2] | rw [row_6_3] | rw [row_6_4] | rw [row_6_5] | simp only [setRow_alloc_past, setRow_alloc_at, World.size_alloc, Nat.add_assoc, Nat.reduceAdd, Nat.lt_add_right_iff_pos, Nat.add_lt_add_iff_left, Nat.reduceLT, Nat.zero_lt_succ, Nat.lt_add_one])) | ((with_reducible refine wpList_load_rowAs rfl 32 _ rfl (w3.heap.size) ?_ 32 #[.int .i64 (n : Int), .int .i64 a1, .int .i64 a2, .int .i64 a3, .int .i64 a4] (0, 0) _ 5 ?_ Try.underlying32 rfl (by kernel_rfl) ?_ ?_); exact rfl; exact (by first | (with_reducible exact heap_1_0 _ _) | (with_reducible exact heap_2_0 _ _ _) | (with_reducible exact heap_2_1 _ _ _) | (with_reducible exact heap_3_0 _ _ _ _) | (with_reducible exact heap_3_1 _ _ _ _) | (with_reducible exact heap_3_2 _ _ _ _) | (with_reducible exact heap_4_0 _ _ _ _ _) | (with_reducible exact heap_4_1 _ _ _ _ _) | (with_reducible exact heap_4_2 _ _ _ _ _) | (with_reducible exact heap_4_3 _ _ _ _ _) | (with_reducible exact heap_5_0 _ _ _ _ _ _) | (with_reducible exact heap_5_1 _ _ _ _ _ _) | (with_reducible exact heap_5_2 _ _ _ _ _ _) | (with_reducible exact heap_5_3 _ _ _ _ _ _) | (with_reducible exact heap_5_4 _ _ _ _ _ _) | (with_reducible exact heap_6_0 _ _ _ _ _ _ _) | (with_reducible exact heap_6_1 _ _ _ _ _ _ _) | (with_reducible exact heap_6_2 _ _ _ _ _ _ _) | (with_reducible exact heap_6_3 _ _ _ _ _ _ _) | (with_reducible exact heap_6_4 _ _ _ _ _ _ _) | (with_reducible exact heap_6_5 _ _ _ _ _ _ _) | simp only [heap_alloc_past, heap_alloc_at, World.size_alloc, Nat.add_assoc, Nat.reduceAdd, Nat.lt_add_right_iff_pos, Nat.add_lt_add_iff_left, Nat.reduceLT, Nat.zero_lt_succ, Nat.lt_add_one]); exact rfl) | ((with_reducible refine wpList_load_rowAs rfl 32 _ rfl ((w3.heap.size + 1)) ?_ 32 #[.int .i64 0, .int .i64 0, .int .i64 0, .int .i64 0, .int .i64 0] (0, 0) _ 5 ?_ Try.underlying32 rfl (by kernel_rfl) ?_ ?_); exact rfl; exact (by first | (with_reducible exact heap_1_0 _ _) | (with_reducible exact heap_2_0 _ _ _) | (with_reducible exact heap_2_1 _ _ _) | (with_reducible exact heap_3_0 _ _ _ _) | (with_reducible exact heap_3_1 _ _ _ _) | (with_reducible exact heap_3_2 _ _ _ _) | (with_reducible exact heap_4_0 _ _ _ _ _) | (with_reducible exact heap_4_1 _ _ _ _ _) | (with_reducible exact heap_4_2 _ _ _ _ _) | (with_reducible exact heap_4_3 _ _ _ _ _) | (with_reducible exact heap_5_0 _ _ _ _ _ _) | (with_reducible exact heap_5_1 _ _ _ _ _ _) | (with_reducible exact heap_5_2 _ _ _ _ _ _) | (with_reducible exact heap_5_3 _ _ _ _ _ _) | (with_reducible exact heap_5_4 _ _ _ _ _ _) | (with_reducible exact heap_6_0 _ _ _ _ _ _ _) | (with_reducible exact heap_6_1 _ _ _ _ _ _ _) | (with_reducible exact heap_6_2 _ _ _ _ _ _ _) | (with_reducible exact heap_6_3 _ _ _ _ _ _ _) | (with_reducible exact heap_6_4 _ _ _ _ _ _ _) | (with_reducible exact heap_6_5 _ _ _ _ _ _ _) | simp only [heap_alloc_past, heap_alloc_at, World.size_alloc, Nat.add_assoc, Nat.reduceAdd, Nat.lt_add_right_iff_pos, Nat.add_lt_add_iff_left, Nat.reduceLT, Nat.zero_lt_succ, Nat.lt_add_one]); exact rfl))
  (with_reducible refine (MG.out _).mono ?_)
  rintro e w6 ⟨rfl, hb6⟩
  have k5 : w6.heap[w3.heap.size]? = some (.cells #[.int .i64 (n : Int), .int .i64 a1, .int .i64 a2, .int .i64 a3, .int .i64 a4] 32 (0, 0)) := by rw [hb6.block _ (by simp only [World.size_alloc]; omega)]; exact (by first | (with_reducible exact heap_1_0 _ _) | (with_reducible exact heap_2_0 _ _ _) | (with_reducible exact heap_2_1 _ _ _) | (with_reducible exact heap_3_0 _ _ _ _) | (with_reducible exact heap_3_1 _ _ _ _) | (with_reducible exact heap_3_2 _ _ _ _) | (with_reducible exact heap_4_0 _ _ _ _ _) | (with_reducible exact heap_4_1 _ _ _ _ _) | (with_reducible exact heap_4_2 _ _ _ _ _) | (with_reducible exact heap_4_3 _ _ _ _ _) | (with_reducible exact heap_5_0 _ _ _ _ _ _) | (with_reducible exact heap_5_1 _ _ _ _ _ _) | (with_reducible exact heap_5_2 _ _ _ _ _ _) | (with_reducible exact heap_5_3 _ _ _ _ _ _) | (with_reducible exact heap_5_4 _ _ _ _ _ _) | (with_reducible exact heap_6_0 _ _ _ _ _ _ _) | (with_reducible exact heap_6_1 _ _ _ _ _ _ _) | (with_reducible exact heap_6_2 _ _ _ _ _ _ _) | (with_reducible exact heap_6_3 _ _ _ _ _ _ _) | (with_reducible exact heap_6_4 _ _ _ _ _ _ _) | (with_reducible exact heap_6_5 _ _ _ _ _ _ _) | simp only [heap_alloc_past, heap_alloc_at, World.size_alloc, Nat.add_assoc, Nat.reduceAdd, Nat.lt_add_right_iff_pos, Nat.add_lt_add_iff_left, Nat.reduceLT, Nat.zero_lt_succ, Nat.lt_add_one])
  have k6 : w6.heap[w3.heap.size + 1]? = some (.cells #[.int .i64 0, .int .i64 0, .int .i64 0, .int .i64 0, .int .i64 0] 32 (0, 0)) := by rw [hb6.block _ (by simp only [World.size_alloc]; omega)]; exact (by first | (with_reducible exact heap_1_0 _ _) | (with_reducible exact heap_2_0 _ _ _) | (with_reducible exact heap_2_1 _ _ _) | (with_reducible exact heap_3_0 _ _ _ _) | (with_reducible exact heap_3_1 _ _ _ _) | (with_reducible exact heap_3_2 _ _ _ _) | (with_reducible exact heap_4_0 _ _ _ _ _) | (with_reducible exact heap_4_1 _ _ _ _ _) | (with_reducible exact heap_4_2 _ _ _ _ _) | (with_reducible exact heap_4_3 _ _ _ _ _) | (with_reducible exact heap_5_0 _ _ _ _ _ _) | (with_reducible exact heap_5_1 _ _ _ _ _ _) | (with_reducible exact heap_5_2 _ _ _ _ _ _) | (with_reducible exact heap_5_3 _ _ _ _ _ _) | (with_reducible exact heap_5_4 _ _ _ _ _ _) | (with_reducible exact heap_6_0 _ _ _ _ _ _ _) | (with_reducible exact heap_6_1 _ _ _ _ _ _ _) | (with_reducible exact heap_6_2 _ _ _ _ _ _ _) | (with_reducible exact heap_6_3 _ _ _ _ _ _ _) | (with_reducible exact heap_6_4 _ _ _ _ _ _ _) | (with_reducible exact heap_6_5 _ _ _ _ _ _ _) | simp only [heap_alloc_past, heap_alloc_at, World.size_alloc, Nat.add_assoc, Nat.reduceAdd, Nat.lt_add_right_iff_pos, Nat.add_lt_add_iff_left, Nat.reduceLT, Nat.zero_lt_succ, Nat.lt_add_one])
  have hb7 : Below w.heap.size w w6 := ((HB3.out.alloc HB3.out.size (.cells #[.int .i64 (n : Int), .int .i64 a1, .int .i64 a2, .int .i64 a3, .int .i64 a4] 32)).alloc (by have := HB3.out.size; simp; omega) (.cells #[.int .i64 0, .int .i64 0, .int .i64 0, .int .i64 0, .int .i64 0] 32)).trans (hb6.mono (by have := HB3.out.size; simp; omega))
  obtain ⟨X, hX⟩ : ∃ X, X = w3.heap.size := ⟨_, rfl⟩
  rw [← hX] at k5 k6 ⊢
  have l6 := lt_of_heap k6
  have K5 := Lib.hid ((heap_alloc_past w6 (.cells #[.int .i64 (n : Int), .int .i64 a1, .int .i64 a2, .int .i64 a3, .int .i64 a4] 32) X (by omega)).trans k5)
  have K6 := Lib.hid ((heap_alloc_past w6 (.cells #[.int .i64 (n : Int), .int .i64 a1, .int .i64 a2, .int .i64 a3, .int .i64 a4] 32) (X + 1) l6).trans k6)
  have K7 := Lib.hid (heap_alloc_at w6 (.cells #[.int .i64 (n : Int), .int .i64 a1, .int .i64 a2, .int .i64 a3, .int .i64 a4] 32) _ rfl)
  have HB7 := Lib.hid (hb7.alloc hb7.size (.cells #[.int .i64 (n : Int), .int .i64 a1, .int .i64 a2, .int .i64 a3, .int .i64 a4] 32))
  have r5 : (w6.alloc (.cells #[.int .i64 (n : Int), .int .i64 a1, .int .i64 a2, .int .i64 a3, .int .i64 a4] 32)).cell? ⟨X, 0, none⟩ = some (.int .i64 (n : Int)) := by rw [cell_of_row _ _ _ _ _ _ K5.out]; rfl
  have r6 : (w6.alloc (.cells #[.int .i64 (n : Int), .int .i64 a1, .int .i64 a2, .int .i64 a3, .int .i64 a4] 32)).cell? ⟨X + 1, 0, none⟩ = some (.int .i64 0) := by rw [cell_of_row _ _ _ _ _ _ K6.out]; rfl
  clear k5 k6 hb6 hX l6 hb7 HB3 S1 S2 MG
  go_wp2_with (first | ((with_reducible refine wpList_store_rowAs rfl 32 _ _ rfl (w6.heap.size) #[.int .i64 (n : Int), .int .i64 a1, .int .i64 a2, .int .i64 a3, .int .i64 a4] ?_ ?_ 32 #[.int .i64 0, .int .i64 0, .int .i64 0, .int .i64 0, .int .i64 0] 5 ?_ (by kernel_rfl) rfl rfl (by simp [Value.oneCell']) ?_); exact rfl; exact rfl; exact (heap_alloc_at _ _ _ rfl); (first | rw [row_1_0] | rw [row_2_0] | rw [row_2_1] | rw [row_3_0] | rw [row_3_1] | rw [row_3_2] | rw [row_4_0] | rw [row_4_1] | rw [row_4_2] | rw [row_4_3] | rw [row_5_0] | rw [row_5_1] | rw [row_5_2] | rw [row_5_3] | rw [row_5_4] | rw [row_6_0] | rw [row_6_1] | rw [row_6_2] | rw [row_6_3] | rw [row_6_4] | rw [row_6_5] | simp only [setRow_alloc_past, setRow_alloc_at, World.size_alloc, Nat.add_assoc, Nat.reduceAdd, Nat.lt_add_right_iff_pos, Nat.add_lt_add_iff_left, Nat.reduceLT, Nat.zero_lt_succ, Nat.lt_add_one])) | ((with_reducible refine wpList_load_rowAs rfl 32 _ rfl (w6.heap.size) ?_ 32 #[.int .i64 (n : Int), .int .i64 a1, .int .i64 a2, .int .i64 a3, .int .i64 a4] (0, 0) _ 5 ?_ Try.underlying32 rfl (by kernel_rfl) ?_ ?_); exact rfl; exact K7.out; exact rfl) | ((with_reducible refine wpList_load_rowAs rfl 32 _ rfl (X) ?_ 32 #[.int .i64 (n : Int), .int .i64 a1, .int .i64 a2, .int .i64 a3, .int .i64 a4] (0, 0) _ 5 ?_ Try.underlying32 rfl (by kernel_rfl) ?_ ?_); exact rfl; exact K5.out; exact rfl) | ((with_reducible refine wpList_load_rowAs rfl 32 _ rfl ((X + 1)) ?_ 32 #[.int .i64 0, .int .i64 0, .int .i64 0, .int .i64 0, .int .i64 0] (0, 0) _ 5 ?_ Try.underlying32 rfl (by kernel_rfl) ?_ ?_); exact rfl; exact K6.out; exact rfl))
  go_ret
  exact ⟨rfl, HB7.out⟩

set_option maxHeartbeats 4000000 in
set_option maxRecDepth 100000 in
theorem merges_both (p q : Option Addr) (cp cq n k : Nat) (l m : List Samp) (a1 a2 a3 a4 b1 b2 b3 b4 c1 c4 : Int) (h60 : ¬ 60 < n) (h61 : ¬ 60 < k)
    (s1 : ∀ W : World, Samps W p l → Calls Try.prog 24 #[.slice p n cp] W fun e w' => e = .returned (.agg #[.int .i64 (n : Int), .int .i64 a1, .int .i64 a2, .int .i64 a3, .int .i64 a4]) ∧ Below W.heap.size W w')
    (s2 : ∀ W : World, Samps W q m → Calls Try.prog 24 #[.slice q k cq] W fun e w' => e = .returned (.agg #[.int .i64 (k : Int), .int .i64 b1, .int .i64 b2, .int .i64 b3, .int .i64 b4]) ∧ Below W.heap.size W w')
    (mg : ∀ W : World, Calls Try.prog 26 #[.agg #[.int .i64 (n : Int), .int .i64 a1, .int .i64 a2, .int .i64 a3, .int .i64 a4], .agg #[.int .i64 (k : Int), .int .i64 b1, .int .i64 b2, .int .i64 b3, .int .i64 b4]] W fun e w' => e = .returned (.agg #[.int .i64 ((n : Int) + k), .int .i64 c1, .int .i64 (min a2 b2), .int .i64 (max a3 b3), .int .i64 c4]) ∧ Below W.heap.size W w')
    (hn : 0 < n) (hk : 0 < k) (hp : p = none → n = 0 ∧ cp = 0) (hq : q = none → k = 0 ∧ cq = 0) (hnl : (sampVals l).length = n * 2) (hnm : (sampVals m).length = k * 2) (hlm : (l ++ m).length = n + k)
    (ad : ∀ W : World, Calls Try.prog 27 #[.int .i64 a1, .int .i64 b1] W fun e w' => e = .returned (.int .i64 c1) ∧ W = w') (ce : ∀ W : World, Calls Try.prog 28 #[.int .i64 c1, .int .i64 ((n : Int) + k)] W fun e w' => e = .returned (.int .i64 c4) ∧ W = w') (E : Bool)
    (en : ∀ (q : Option Addr) (c : Nat) (W : World), Samps W q (l ++ m) → Calls Try.prog 29 #[.slice q (n + k) c] W fun e w' => e = .returned (.bool E) ∧ Below W.heap.size W w')
    (of : E = false → ∀ (q : Option Addr) (c : Nat) (W : World), Samps W q (l ++ m) → Calls Try.prog 24 #[.slice q (n + k) c] W fun e w' => e = .returned (.agg #[.int .i64 ((n : Int) + k), .int .i64 c1, .int .i64 (min a2 b2), .int .i64 (max a3 b3), .int .i64 c4]) ∧ Below W.heap.size W w')
    (w : World) (hs : Samps w p l) (ht : Samps w q m) :
    Calls Try.prog 5 #[.slice p n cp, .slice q k cq] w fun e w' => e = .returned (.bool true) ∧ Below w.heap.size w w' := by
  have S1 := Lib.hid s1
  have S2 := Lib.hid s2
  have MG := Lib.hid mg
  have HS := Lib.hid hs
  have HT := Lib.hid ht
  clear s1 s2 mg hs ht
  have d0 : ((n : Int) == 0) = false := beq_eq_false_iff_ne.2 (by omega)
  have d1 : ((k : Int) == 0) = false := beq_eq_false_iff_ne.2 (by omega)
  have AD := Lib.hid ad
  have CE := Lib.hid ce
  have EN := Lib.hid en
  have OF := Lib.hid of
  have NL := Lib.hid hnl
  have NM := Lib.hid hnm
  have HP := Lib.hid hp
  have HQ := Lib.hid hq
  have N1 := Lib.hid hlm
  have O1 := Lib.hid (sampVals_one l)
  have O2 := Lib.hid (sampVals_one m)
  have A1 := Lib.hid (sampVals_append l m)
  clear ad ce en of hnl hnm hp hq hlm
  go_enter Try.func5, Try.ntmps5
  go_wp2_with fail
  (with_reducible refine (awake09 _).mono ?_)
  rintro e w1 ⟨rfl, hb1⟩
  have HB := Lib.hid hb1
  clear hb1
  go_wp2_with fail
  (with_reducible refine (S1.out _ (HS.out.below HB.out)).mono ?_)
  rintro e w2 ⟨rfl, hb2⟩
  have HB2 := Lib.hid (HB.out.trans (hb2.mono HB.out.size))
  clear hb2 HB
  go_wp2_with fail
  (with_reducible refine (S2.out _ (HT.out.below HB2.out)).mono ?_)
  rintro e w3 ⟨rfl, hb3⟩
  have HB3 := Lib.hid (HB2.out.trans (hb3.mono HB2.out.size))
  clear hb3 HB2
  go_wp2_with (first | ((with_reducible refine wpList_store_rowAs rfl 32 _ _ rfl (w3.heap.size) #[.int .i64 (n : Int), .int .i64 a1, .int .i64 a2, .int .i64 a3, .int .i64 a4] ?_ ?_ 32 #[.int .i64 0, .int .i64 0, .int .i64 0, .int .i64 0, .int .i64 0] 5 ?_ (by kernel_rfl) rfl rfl (by simp [Value.oneCell']) ?_); exact rfl; exact rfl; exact (by first | (with_reducible exact heap_1_0 _ _) | (with_reducible exact heap_2_0 _ _ _) | (with_reducible exact heap_2_1 _ _ _) | (with_reducible exact heap_3_0 _ _ _ _) | (with_reducible exact heap_3_1 _ _ _ _) | (with_reducible exact heap_3_2 _ _ _ _) | (with_reducible exact heap_4_0 _ _ _ _ _) | (with_reducible exact heap_4_1 _ _ _ _ _) | (with_reducible exact heap_4_2 _ _ _ _ _) | (with_reducible exact heap_4_3 _ _ _ _ _) | (with_reducible exact heap_5_0 _ _ _ _ _ _) | (with_reducible exact heap_5_1 _ _ _ _ _ _) | (with_reducible exact heap_5_2 _ _ _ _ _ _) | (with_reducible exact heap_5_3 _ _ _ _ _ _) | (with_reducible exact heap_5_4 _ _ _ _ _ _) | (with_reducible exact heap_6_0 _ _ _ _ _ _ _) | (with_reducible exact heap_6_1 _ _ _ _ _ _ _) | (with_reducible exact heap_6_2 _ _ _ _ _ _ _) | (with_reducible exact heap_6_3 _ _ _ _ _ _ _) | (with_reducible exact heap_6_4 _ _ _ _ _ _ _) | (with_reducible exact heap_6_5 _ _ _ _ _ _ _) | simp only [heap_alloc_past, heap_alloc_at, World.size_alloc, Nat.add_assoc, Nat.reduceAdd, Nat.lt_add_right_iff_pos, Nat.add_lt_add_iff_left, Nat.reduceLT, Nat.zero_lt_succ, Nat.lt_add_one]); (first | rw [row_1_0] | rw [row_2_0] | rw [row_2_1] | rw [row_3_0] | rw [row_3_1] | rw [row_3_2] | rw [row_4_0] | rw [row_4_1] | rw [row_4_2] | rw [row_4_3] | rw [row_5_0] | rw [row_5_1] | rw [row_5_2] | rw [row_5_3] | rw [row_5_4] | rw [row_6_0] | rw [row_6_1] | rw [row_6_2] | rw [row_6_3] | rw [row_6_4] | rw [row_6_5] | simp only [setRow_alloc_past, setRow_alloc_at, World.size_alloc, Nat.add_assoc, Nat.reduceAdd, Nat.lt_add_right_iff_pos, Nat.add_lt_add_iff_left, Nat.reduceLT, Nat.zero_lt_succ, Nat.lt_add_one])) | ((with_reducible refine wpList_store_rowAs rfl 32 _ _ rfl ((w3.heap.size + 1)) #[.int .i64 (k : Int), .int .i64 b1, .int .i64 b2, .int .i64 b3, .int .i64 b4] ?_ ?_ 32 #[.int .i64 0, .int .i64 0, .int .i64 0, .int .i64 0, .int .i64 0] 5 ?_ (by kernel_rfl) rfl rfl (by simp [Value.oneCell']) ?_); exact rfl; exact rfl; exact (by first | (with_reducible exact heap_1_0 _ _) | (with_reducible exact heap_2_0 _ _ _) | (with_reducible exact heap_2_1 _ _ _) | (with_reducible exact heap_3_0 _ _ _ _) | (with_reducible exact heap_3_1 _ _ _ _) | (with_reducible exact heap_3_2 _ _ _ _) | (with_reducible exact heap_4_0 _ _ _ _ _) | (with_reducible exact heap_4_1 _ _ _ _ _) | (with_reducible exact heap_4_2 _ _ _ _ _) | (with_reducible exact heap_4_3 _ _ _ _ _) | (with_reducible exact heap_5_0 _ _ _ _ _ _) | (with_reducible exact heap_5_1 _ _ _ _ _ _) | (with_reducible exact heap_5_2 _ _ _ _ _ _) | (with_reducible exact heap_5_3 _ _ _ _ _ _) | (with_reducible exact heap_5_4 _ _ _ _ _ _) | (with_reducible exact heap_6_0 _ _ _ _ _ _ _) | (with_reducible exact heap_6_1 _ _ _ _ _ _ _) | (with_reducible exact heap_6_2 _ _ _ _ _ _ _) | (with_reducible exact heap_6_3 _ _ _ _ _ _ _) | (with_reducible exact heap_6_4 _ _ _ _ _ _ _) | (with_reducible exact heap_6_5 _ _ _ _ _ _ _) | simp only [heap_alloc_past, heap_alloc_at, World.size_alloc, Nat.add_assoc, Nat.reduceAdd, Nat.lt_add_right_iff_pos, Nat.add_lt_add_iff_left, Nat.reduceLT, Nat.zero_lt_succ, Nat.lt_add_one]); (first | rw [row_1_0] | rw [row_2_0] | rw [row_2_1] | rw [row_3_0] | rw [row_3_1] | rw [row_3_2] | rw [row_4_0] | rw [row_4_1] | rw [row_4_2] | rw [row_4_3] | rw [row_5_0] | rw [row_5_1] | rw [row_5_2] | rw [row_5_3] | rw [row_5_4] | rw [row_6_0] | rw [row_6_1] | rw [row_6_2] | rw [row_6_3] | rw [row_6_4] | rw [row_6_5] | simp only [setRow_alloc_past, setRow_alloc_at, World.size_alloc, Nat.add_assoc, Nat.reduceAdd, Nat.lt_add_right_iff_pos, Nat.add_lt_add_iff_left, Nat.reduceLT, Nat.zero_lt_succ, Nat.lt_add_one])) | ((with_reducible refine wpList_load_rowAs rfl 32 _ rfl (w3.heap.size) ?_ 32 #[.int .i64 (n : Int), .int .i64 a1, .int .i64 a2, .int .i64 a3, .int .i64 a4] (0, 0) _ 5 ?_ Try.underlying32 rfl (by kernel_rfl) ?_ ?_); exact rfl; exact (by first | (with_reducible exact heap_1_0 _ _) | (with_reducible exact heap_2_0 _ _ _) | (with_reducible exact heap_2_1 _ _ _) | (with_reducible exact heap_3_0 _ _ _ _) | (with_reducible exact heap_3_1 _ _ _ _) | (with_reducible exact heap_3_2 _ _ _ _) | (with_reducible exact heap_4_0 _ _ _ _ _) | (with_reducible exact heap_4_1 _ _ _ _ _) | (with_reducible exact heap_4_2 _ _ _ _ _) | (with_reducible exact heap_4_3 _ _ _ _ _) | (with_reducible exact heap_5_0 _ _ _ _ _ _) | (with_reducible exact heap_5_1 _ _ _ _ _ _) | (with_reducible exact heap_5_2 _ _ _ _ _ _) | (with_reducible exact heap_5_3 _ _ _ _ _ _) | (with_reducible exact heap_5_4 _ _ _ _ _ _) | (with_reducible exact heap_6_0 _ _ _ _ _ _ _) | (with_reducible exact heap_6_1 _ _ _ _ _ _ _) | (with_reducible exact heap_6_2 _ _ _ _ _ _ _) | (with_reducible exact heap_6_3 _ _ _ _ _ _ _) | (with_reducible exact heap_6_4 _ _ _ _ _ _ _) | (with_reducible exact heap_6_5 _ _ _ _ _ _ _) | simp only [heap_alloc_past, heap_alloc_at, World.size_alloc, Nat.add_assoc, Nat.reduceAdd, Nat.lt_add_right_iff_pos, Nat.add_lt_add_iff_left, Nat.reduceLT, Nat.zero_lt_succ, Nat.lt_add_one]); exact rfl) | ((with_reducible refine wpList_load_rowAs rfl 32 _ rfl ((w3.heap.size + 1)) ?_ 32 #[.int .i64 (k : Int), .int .i64 b1, .int .i64 b2, .int .i64 b3, .int .i64 b4] (0, 0) _ 5 ?_ Try.underlying32 rfl (by kernel_rfl) ?_ ?_); exact rfl; exact (by first | (with_reducible exact heap_1_0 _ _) | (with_reducible exact heap_2_0 _ _ _) | (with_reducible exact heap_2_1 _ _ _) | (with_reducible exact heap_3_0 _ _ _ _) | (with_reducible exact heap_3_1 _ _ _ _) | (with_reducible exact heap_3_2 _ _ _ _) | (with_reducible exact heap_4_0 _ _ _ _ _) | (with_reducible exact heap_4_1 _ _ _ _ _) | (with_reducible exact heap_4_2 _ _ _ _ _) | (with_reducible exact heap_4_3 _ _ _ _ _) | (with_reducible exact heap_5_0 _ _ _ _ _ _) | (with_reducible exact heap_5_1 _ _ _ _ _ _) | (with_reducible exact heap_5_2 _ _ _ _ _ _) | (with_reducible exact heap_5_3 _ _ _ _ _ _) | (with_reducible exact heap_5_4 _ _ _ _ _ _) | (with_reducible exact heap_6_0 _ _ _ _ _ _ _) | (with_reducible exact heap_6_1 _ _ _ _ _ _ _) | (with_reducible exact heap_6_2 _ _ _ _ _ _ _) | (with_reducible exact heap_6_3 _ _ _ _ _ _ _) | (with_reducible exact heap_6_4 _ _ _ _ _ _ _) | (with_reducible exact heap_6_5 _ _ _ _ _ _ _) | simp only [heap_alloc_past, heap_alloc_at, World.size_alloc, Nat.add_assoc, Nat.reduceAdd, Nat.lt_add_right_iff_pos, Nat.add_lt_add_iff_left, Nat.reduceLT, Nat.zero_lt_succ, Nat.lt_add_one]); exact rfl))
  (with_reducible refine (MG.out _).mono ?_)
  rintro e w6 ⟨rfl, hb6⟩
  have k5 : w6.heap[w3.heap.size]? = some (.cells #[.int .i64 (n : Int), .int .i64 a1, .int .i64 a2, .int .i64 a3, .int .i64 a4] 32 (0, 0)) := by rw [hb6.block _ (by simp only [World.size_alloc]; omega)]; exact (by first | (with_reducible exact heap_1_0 _ _) | (with_reducible exact heap_2_0 _ _ _) | (with_reducible exact heap_2_1 _ _ _) | (with_reducible exact heap_3_0 _ _ _ _) | (with_reducible exact heap_3_1 _ _ _ _) | (with_reducible exact heap_3_2 _ _ _ _) | (with_reducible exact heap_4_0 _ _ _ _ _) | (with_reducible exact heap_4_1 _ _ _ _ _) | (with_reducible exact heap_4_2 _ _ _ _ _) | (with_reducible exact heap_4_3 _ _ _ _ _) | (with_reducible exact heap_5_0 _ _ _ _ _ _) | (with_reducible exact heap_5_1 _ _ _ _ _ _) | (with_reducible exact heap_5_2 _ _ _ _ _ _) | (with_reducible exact heap_5_3 _ _ _ _ _ _) | (with_reducible exact heap_5_4 _ _ _ _ _ _) | (with_reducible exact heap_6_0 _ _ _ _ _ _ _) | (with_reducible exact heap_6_1 _ _ _ _ _ _ _) | (with_reducible exact heap_6_2 _ _ _ _ _ _ _) | (with_reducible exact heap_6_3 _ _ _ _ _ _ _) | (with_reducible exact heap_6_4 _ _ _ _ _ _ _) | (with_reducible exact heap_6_5 _ _ _ _ _ _ _) | simp only [heap_alloc_past, heap_alloc_at, World.size_alloc, Nat.add_assoc, Nat.reduceAdd, Nat.lt_add_right_iff_pos, Nat.add_lt_add_iff_left, Nat.reduceLT, Nat.zero_lt_succ, Nat.lt_add_one])
  have k6 : w6.heap[w3.heap.size + 1]? = some (.cells #[.int .i64 (k : Int), .int .i64 b1, .int .i64 b2, .int .i64 b3, .int .i64 b4] 32 (0, 0)) := by rw [hb6.block _ (by simp only [World.size_alloc]; omega)]; exact (by first | (with_reducible exact heap_1_0 _ _) | (with_reducible exact heap_2_0 _ _ _) | (with_reducible exact heap_2_1 _ _ _) | (with_reducible exact heap_3_0 _ _ _ _) | (with_reducible exact heap_3_1 _ _ _ _) | (with_reducible exact heap_3_2 _ _ _ _) | (with_reducible exact heap_4_0 _ _ _ _ _) | (with_reducible exact heap_4_1 _ _ _ _ _) | (with_reducible exact heap_4_2 _ _ _ _ _) | (with_reducible exact heap_4_3 _ _ _ _ _) | (with_reducible exact heap_5_0 _ _ _ _ _ _) | (with_reducible exact heap_5_1 _ _ _ _ _ _) | (with_reducible exact heap_5_2 _ _ _ _ _ _) | (with_reducible exact heap_5_3 _ _ _ _ _ _) | (with_reducible exact heap_5_4 _ _ _ _ _ _) | (with_reducible exact heap_6_0 _ _ _ _ _ _ _) | (with_reducible exact heap_6_1 _ _ _ _ _ _ _) | (with_reducible exact heap_6_2 _ _ _ _ _ _ _) | (with_reducible exact heap_6_3 _ _ _ _ _ _ _) | (with_reducible exact heap_6_4 _ _ _ _ _ _ _) | (with_reducible exact heap_6_5 _ _ _ _ _ _ _) | simp only [heap_alloc_past, heap_alloc_at, World.size_alloc, Nat.add_assoc, Nat.reduceAdd, Nat.lt_add_right_iff_pos, Nat.add_lt_add_iff_left, Nat.reduceLT, Nat.zero_lt_succ, Nat.lt_add_one])
  have hb7 : Below w.heap.size w w6 := ((HB3.out.alloc HB3.out.size (.cells #[.int .i64 (n : Int), .int .i64 a1, .int .i64 a2, .int .i64 a3, .int .i64 a4] 32)).alloc (by have := HB3.out.size; simp; omega) (.cells #[.int .i64 (k : Int), .int .i64 b1, .int .i64 b2, .int .i64 b3, .int .i64 b4] 32)).trans (hb6.mono (by have := HB3.out.size; simp; omega))
  obtain ⟨X, hX⟩ : ∃ X, X = w3.heap.size := ⟨_, rfl⟩
  rw [← hX] at k5 k6 ⊢
  have l6 := lt_of_heap k6
  have K5 := Lib.hid ((heap_alloc_past w6 (.cells #[.int .i64 ((n : Int) + k), .int .i64 c1, .int .i64 (min a2 b2), .int .i64 (max a3 b3), .int .i64 c4] 32) X (by omega)).trans k5)
  have K6 := Lib.hid ((heap_alloc_past w6 (.cells #[.int .i64 ((n : Int) + k), .int .i64 c1, .int .i64 (min a2 b2), .int .i64 (max a3 b3), .int .i64 c4] 32) (X + 1) l6).trans k6)
  have K7 := Lib.hid (heap_alloc_at w6 (.cells #[.int .i64 ((n : Int) + k), .int .i64 c1, .int .i64 (min a2 b2), .int .i64 (max a3 b3), .int .i64 c4] 32) _ rfl)
  have HB7 := Lib.hid (hb7.alloc hb7.size (.cells #[.int .i64 ((n : Int) + k), .int .i64 c1, .int .i64 (min a2 b2), .int .i64 (max a3 b3), .int .i64 c4] 32))
  have r5 : (w6.alloc (.cells #[.int .i64 ((n : Int) + k), .int .i64 c1, .int .i64 (min a2 b2), .int .i64 (max a3 b3), .int .i64 c4] 32)).cell? ⟨X, 0, none⟩ = some (.int .i64 (n : Int)) := by rw [cell_of_row _ _ _ _ _ _ K5.out]; rfl
  have r6 : (w6.alloc (.cells #[.int .i64 ((n : Int) + k), .int .i64 c1, .int .i64 (min a2 b2), .int .i64 (max a3 b3), .int .i64 c4] 32)).cell? ⟨X + 1, 0, none⟩ = some (.int .i64 (k : Int)) := by rw [cell_of_row _ _ _ _ _ _ K6.out]; rfl
  clear k5 k6 hb6 hX l6 hb7 HB3 S1 S2 MG
  have h0 : Owns (w6.alloc (.cells #[.int .i64 ((n : Int) + k), .int .i64 c1, .int .i64 (min a2 b2), .int .i64 (max a3 b3), .int .i64 c4] 32)) (w6.alloc (.cells #[.int .i64 ((n : Int) + k), .int .i64 c1, .int .i64 (min a2 b2), .int .i64 (max a3 b3), .int .i64 c4] 32)).heap.size 2 (.slice none 0 0) 0 [] := owns_nil _ _ _
  have H0 := Lib.hid h0
  have hz := Below.refl (w6.alloc (.cells #[.int .i64 ((n : Int) + k), .int .i64 c1, .int .i64 (min a2 b2), .int .i64 (max a3 b3), .int .i64 c4] 32)).heap.size (w6.alloc (.cells #[.int .i64 ((n : Int) + k), .int .i64 c1, .int .i64 (min a2 b2), .int .i64 (max a3 b3), .int .i64 c4] 32))
  have HZ := Lib.hid hz
  obtain ⟨Y, hY⟩ : ∃ Y, Y = w6.heap.size := ⟨_, rfl⟩
  have HY := Lib.hid hY
  clear h0 hz hY
  go_wp2_with (first
    | ((with_reducible refine wpList_store_rowAs rfl 32 _ _ rfl (w6.heap.size) #[.int .i64 ((n : Int) + k), .int .i64 c1, .int .i64 (min a2 b2), .int .i64 (max a3 b3), .int .i64 c4] ?_ ?_ 32 #[.int .i64 0, .int .i64 0, .int .i64 0, .int .i64 0, .int .i64 0] 5 ?_ (by kernel_rfl) rfl rfl (by simp [Value.oneCell']) ?_); exact rfl; exact rfl; exact (heap_alloc_at _ _ _ rfl); (first | rw [row_1_0] | rw [row_2_0] | rw [row_2_1] | rw [row_3_0] | rw [row_3_1] | rw [row_3_2] | rw [row_4_0] | rw [row_4_1] | rw [row_4_2] | rw [row_4_3] | rw [row_5_0] | rw [row_5_1] | rw [row_5_2] | rw [row_5_3] | rw [row_5_4] | rw [row_6_0] | rw [row_6_1] | rw [row_6_2] | rw [row_6_3] | rw [row_6_4] | rw [row_6_5] | simp only [setRow_alloc_past, setRow_alloc_at, World.size_alloc, Nat.add_assoc, Nat.reduceAdd, Nat.lt_add_right_iff_pos, Nat.add_lt_add_iff_left, Nat.reduceLT, Nat.zero_lt_succ, Nat.lt_add_one]))
    | ((at_builtin; refine wpList_append_any rfl _ _ 22 rfl _ 74 (.agg #[.int .i64 0, .int .i64 0]) 2 16 Try.underlying22 sampInfo rfl (by decide) _ _ _ rfl (H0.out) (p) (n) (cp) (sampVals l) rfl (NL.out) (HP.out) ((HS.out.below HB7.out).news) (O1.out) (by unfold maxLen; omega) (by omega) (HZ.out.size) ?_; intro u1 x1 ha1 hg1); have hb2 := HZ.out.grown hg1 HZ.out.size (fun k hk => (H0.out.lt k hk).1); rw [Nat.zero_add, List.nil_append] at ha1; have HA := Lib.hid ha1; have HZ2 := Lib.hid hb2; clear ha1 hg1 hb2 H0 HZ)
    | ((at_builtin; refine wpList_append_any rfl _ _ 22 rfl _ 74 (.agg #[.int .i64 0, .int .i64 0]) 2 16 Try.underlying22 sampInfo rfl (by decide) _ _ _ rfl (HA.out) (q) (k) (cq) (sampVals m) rfl (NM.out) (HQ.out) ((HT.out.below (HB7.out.trans (HZ2.out.mono HB7.out.size))).news) (O2.out) (by unfold maxLen; omega) (by omega) (HZ2.out.size) ?_; intro u1 x1 ha1 hg1); have hb3 := HZ2.out.grown hg1 HZ2.out.size (fun k hk => (HA.out.lt k hk).1); rw [← A1.out, ← N1.out] at ha1; obtain ⟨q1, c9, rfl, _, hq1⟩ := samps_of_owns ha1; rw [N1.out]; have HQ1 := Lib.hid hq1; have g5 := (hb3.block _ (lt_of_heap K5.out)).trans K5.out; have g6 := (hb3.block _ (lt_of_heap K6.out)).trans K6.out; have g7 := (hb3.block _ (lt_of_heap K7.out)).trans K7.out; have G5 := Lib.hid g5; have G6 := Lib.hid g6; have G7 := Lib.hid g7; have hb8 := HB7.out.trans (hb3.mono HB7.out.size); have HB8 := Lib.hid hb8; clear ha1 hg1 hb3 hq1 HA HZ2 g5 g6 g7 hb8 K5 K6 K7 HB7 r5 r6)
    | fail)
  rw [← HY.out]
  have G7' : Hid (x1.heap[Y]? = some (.cells #[.int .i64 ((n : Int) + k), .int .i64 c1, .int .i64 (min a2 b2), .int .i64 (max a3 b3), .int .i64 c4] 32 (0, 0))) := by rw [HY.out]; exact G7
  clear G7
  have ad := AD.out
  have ce := CE.out
  have hst : Stab (fun w' => ((((Below w.heap.size w w' ∧ w'.heap[X]? = some (.cells #[.int .i64 (n : Int), .int .i64 a1, .int .i64 a2, .int .i64 a3, .int .i64 a4] 32 (0, 0))) ∧ w'.heap[X + 1]? = some (.cells #[.int .i64 (k : Int), .int .i64 b1, .int .i64 b2, .int .i64 b3, .int .i64 b4] 32 (0, 0))) ∧ w'.heap[Y]? = some (.cells #[.int .i64 ((n : Int) + k), .int .i64 c1, .int .i64 (min a2 b2), .int .i64 (max a3 b3), .int .i64 c4] 32 (0, 0)))) ∧ Samps w' q1 (l ++ m)) :=
    stab_and (stab_and (stab_and (stab_and (stab_below (Nat.le_refl _)) (stab_heap _ _)) (stab_heap _ _)) (stab_heap _ _)) (fun _ _ h hb => h.below hb)
  clear HY
  refine wp_region_E mixed [] hst ⟨⟨⟨⟨below_drew HB8.out, G5.out⟩, G6.out⟩, G7'.out⟩, HQ1.out⟩ ?_
  refine wpAnyE_take 0 (v := .pointer (some ⟨Y, 1, none⟩)) rfl (by kernel_rfl) (by kernel_rfl) (by kernel_rfl) (fun _ _ _ h => h) hst (EffB.run rfl rfl (fun wd hS => ?_)) (.inr (EffB.run rfl rfl (fun wd hS => ?_))) ?_
  · (go_wp2; exact ⟨rfl, Below.refl _ _⟩)
  · (go_wp2; exact ⟨rfl, Below.refl _ _⟩)
  simp only [act_norm]
  refine wpAnyE_take 1 (v := .int .i64 c1) rfl (by kernel_rfl) (by kernel_rfl) (by kernel_rfl) (fun _ _ _ h => h) hst (EffB.run rfl rfl (fun wd hS => ?_)) (.inl (by kernel_rfl)) ?_
  · (have c2 : wd.cell? ⟨Y, 1, none⟩ = some (.int .i64 c1) := by rw [cell_of_row _ _ _ _ _ _ hS.1.2]; rfl); go_wp2; exact ⟨rfl, Below.refl _ _⟩
  simp only [act_norm]
  refine wpAnyE_take 2 (v := .pointer (some ⟨X, 1, none⟩)) rfl (by kernel_rfl) (by kernel_rfl) (by kernel_rfl) (fun _ _ _ h => h) hst (EffB.run rfl rfl (fun wd hS => ?_)) (.inr (EffB.run rfl rfl (fun wd hS => ?_))) ?_
  · (go_wp2; exact ⟨rfl, Below.refl _ _⟩)
  · (go_wp2; exact ⟨rfl, Below.refl _ _⟩)
  simp only [act_norm]
  refine wpAnyE_take 3 (v := .int .i64 a1) rfl (by kernel_rfl) (by kernel_rfl) (by kernel_rfl) (fun _ _ _ h => h) hst (EffB.run rfl rfl (fun wd hS => ?_)) (.inl (by kernel_rfl)) ?_
  · (have c2 : wd.cell? ⟨X, 1, none⟩ = some (.int .i64 a1) := by rw [cell_of_row _ _ _ _ _ _ hS.1.1.1.2]; rfl); go_wp2; exact ⟨rfl, Below.refl _ _⟩
  simp only [act_norm]
  refine wpAnyE_take 4 (v := .pointer (some ⟨X + 1, 1, none⟩)) rfl (by kernel_rfl) (by kernel_rfl) (by kernel_rfl) (fun _ _ _ h => h) hst (EffB.run rfl rfl (fun wd hS => ?_)) (.inr (EffB.run rfl rfl (fun wd hS => ?_))) ?_
  · (go_wp2; exact ⟨rfl, Below.refl _ _⟩)
  · (go_wp2; exact ⟨rfl, Below.refl _ _⟩)
  simp only [act_norm]
  refine wpAnyE_take 5 (v := .int .i64 b1) rfl (by kernel_rfl) (by kernel_rfl) (by kernel_rfl) (fun _ _ _ h => h) hst (EffB.run rfl rfl (fun wd hS => ?_)) (.inl (by kernel_rfl)) ?_
  · (have c2 : wd.cell? ⟨X + 1, 1, none⟩ = some (.int .i64 b1) := by rw [cell_of_row _ _ _ _ _ _ hS.1.1.2]; rfl); go_wp2; exact ⟨rfl, Below.refl _ _⟩
  simp only [act_norm]
  refine wpAnyE_take 6 (v := .int .i64 c1) rfl (by kernel_rfl) (by kernel_rfl) (by kernel_rfl) (fun _ _ _ h => h) hst (EffB.run rfl rfl (fun wd hS => ?_)) (.inl (by kernel_rfl)) ?_
  · (go_wp2_with fail; (with_reducible refine (ad wd).mono ?_); rintro e w'' ⟨rfl, rfl⟩; exact ⟨rfl, Below.refl _ _⟩)
  simp only [act_norm]
  refine wpAnyE_take 7 (v := .bool false) rfl (by kernel_rfl) (by kernel_rfl) (by kernel_rfl) (fun _ _ _ h => h) hst (EffB.run rfl rfl (fun wd hS => ?_)) (.inr (EffB.run rfl rfl (fun wd hS => ?_))) ?_
  · (go_wp2; exact ⟨rfl, Below.refl _ _⟩)
  · (go_wp2; exact ⟨rfl, Below.refl _ _⟩)
  simp only [act_norm]
  refine wpAnyE_take 8 rfl (by kernel_rfl) (by kernel_rfl) (by kernel_rfl) (fun _ _ _ h => h) hst (EffB.pure rfl (fun _ => rfl)) (.inr (EffB.pure rfl (fun _ => rfl))) ?_
  simp only [act_norm]
  refine wpAnyE_take 9 (v := .pointer (some ⟨Y, 0, none⟩)) rfl (by kernel_rfl) (by kernel_rfl) (by kernel_rfl) (fun _ _ _ h => h) hst (EffB.run rfl rfl (fun wd hS => ?_)) (.inr (EffB.run rfl rfl (fun wd hS => ?_))) ?_
  · (go_wp2; exact ⟨rfl, Below.refl _ _⟩)
  · (go_wp2; exact ⟨rfl, Below.refl _ _⟩)
  simp only [act_norm]
  refine wpAnyE_take 10 (v := .int .i64 ((n : Int) + k)) rfl (by kernel_rfl) (by kernel_rfl) (by kernel_rfl) (fun _ _ _ h => h) hst (EffB.run rfl rfl (fun wd hS => ?_)) (.inl (by kernel_rfl)) ?_
  · (have c2 : wd.cell? ⟨Y, 0, none⟩ = some (.int .i64 ((n : Int) + k)) := by rw [cell_of_row _ _ _ _ _ _ hS.1.2]; rfl); go_wp2; exact ⟨rfl, Below.refl _ _⟩
  simp only [act_norm]
  refine wpAnyE_take 11 (v := .pointer (some ⟨X, 0, none⟩)) rfl (by kernel_rfl) (by kernel_rfl) (by kernel_rfl) (fun _ _ _ h => h) hst (EffB.run rfl rfl (fun wd hS => ?_)) (.inr (EffB.run rfl rfl (fun wd hS => ?_))) ?_
  · (go_wp2; exact ⟨rfl, Below.refl _ _⟩)
  · (go_wp2; exact ⟨rfl, Below.refl _ _⟩)
  simp only [act_norm]
  refine wpAnyE_take 12 (v := .int .i64 (n : Int)) rfl (by kernel_rfl) (by kernel_rfl) (by kernel_rfl) (fun _ _ _ h => h) hst (EffB.run rfl rfl (fun wd hS => ?_)) (.inl (by kernel_rfl)) ?_
  · (have c2 : wd.cell? ⟨X, 0, none⟩ = some (.int .i64 (n : Int)) := by rw [cell_of_row _ _ _ _ _ _ hS.1.1.1.2]; rfl); go_wp2; exact ⟨rfl, Below.refl _ _⟩
  simp only [act_norm]
  refine wpAnyE_take 13 (v := .pointer (some ⟨X + 1, 0, none⟩)) rfl (by kernel_rfl) (by kernel_rfl) (by kernel_rfl) (fun _ _ _ h => h) hst (EffB.run rfl rfl (fun wd hS => ?_)) (.inr (EffB.run rfl rfl (fun wd hS => ?_))) ?_
  · (go_wp2; exact ⟨rfl, Below.refl _ _⟩)
  · (go_wp2; exact ⟨rfl, Below.refl _ _⟩)
  simp only [act_norm]
  refine wpAnyE_take 14 (v := .int .i64 (k : Int)) rfl (by kernel_rfl) (by kernel_rfl) (by kernel_rfl) (fun _ _ _ h => h) hst (EffB.run rfl rfl (fun wd hS => ?_)) (.inl (by kernel_rfl)) ?_
  · (have c2 : wd.cell? ⟨X + 1, 0, none⟩ = some (.int .i64 (k : Int)) := by rw [cell_of_row _ _ _ _ _ _ hS.1.1.2]; rfl); go_wp2; exact ⟨rfl, Below.refl _ _⟩
  simp only [act_norm]
  refine wpAnyE_take 15 (v := .int .i64 ((n : Int) + k)) rfl (by kernel_rfl) (by kernel_rfl) (by kernel_rfl) (fun _ _ _ h => h) hst (EffB.run rfl rfl (fun wd hS => ?_)) (.inr (EffB.run rfl rfl (fun wd hS => ?_))) ?_
  · (go_wp2; exact ⟨rfl, Below.refl _ _⟩)
  · (go_wp2; exact ⟨rfl, Below.refl _ _⟩)
  simp only [act_norm]
  refine wpAnyE_take 16 (v := .bool false) rfl (by kernel_rfl) (by kernel_rfl) (by kernel_rfl) (fun _ _ _ h => h) hst (EffB.run rfl rfl (fun wd hS => ?_)) (.inr (EffB.run rfl rfl (fun wd hS => ?_))) ?_
  · (go_wp2; exact ⟨rfl, Below.refl _ _⟩)
  · (go_wp2; exact ⟨rfl, Below.refl _ _⟩)
  simp only [act_norm]
  refine wpAnyE_take 17 (v := .bool false) rfl (by kernel_rfl) (by kernel_rfl) (by kernel_rfl) (fun _ _ _ h => h) hst (EffB.run rfl rfl (fun wd hS => ?_)) (.inr (EffB.run rfl rfl (fun wd hS => ?_))) ?_
  · (go_wp2; exact ⟨rfl, Below.refl _ _⟩)
  · (go_wp2; exact ⟨rfl, Below.refl _ _⟩)
  simp only [act_norm]
  refine wpAnyE_take 18 rfl (by kernel_rfl) (by kernel_rfl) (by kernel_rfl) (fun _ _ _ h => h) hst (EffB.pure rfl (fun _ => rfl)) (.inr (EffB.pure rfl (fun _ => rfl))) ?_
  simp only [act_norm]
  refine wpAnyE_take 19 (v := .pointer (some ⟨Y, 4, none⟩)) rfl (by kernel_rfl) (by kernel_rfl) (by kernel_rfl) (fun _ _ _ h => h) hst (EffB.run rfl rfl (fun wd hS => ?_)) (.inr (EffB.run rfl rfl (fun wd hS => ?_))) ?_
  · (go_wp2; exact ⟨rfl, Below.refl _ _⟩)
  · (go_wp2; exact ⟨rfl, Below.refl _ _⟩)
  simp only [act_norm]
  refine wpAnyE_take 20 (v := .int .i64 c4) rfl (by kernel_rfl) (by kernel_rfl) (by kernel_rfl) (fun _ _ _ h => h) hst (EffB.run rfl rfl (fun wd hS => ?_)) (.inl (by kernel_rfl)) ?_
  · (have c2 : wd.cell? ⟨Y, 4, none⟩ = some (.int .i64 c4) := by rw [cell_of_row _ _ _ _ _ _ hS.1.2]; rfl); go_wp2; exact ⟨rfl, Below.refl _ _⟩
  simp only [act_norm]
  refine wpAnyE_take 21 (v := .pointer (some ⟨Y, 1, none⟩)) rfl (by kernel_rfl) (by kernel_rfl) (by kernel_rfl) (fun _ _ _ h => h) hst (EffB.run rfl rfl (fun wd hS => ?_)) (.inr (EffB.run rfl rfl (fun wd hS => ?_))) ?_
  · (go_wp2; exact ⟨rfl, Below.refl _ _⟩)
  · (go_wp2; exact ⟨rfl, Below.refl _ _⟩)
  simp only [act_norm]
  refine wpAnyE_take 22 (v := .int .i64 c1) rfl (by kernel_rfl) (by kernel_rfl) (by kernel_rfl) (fun _ _ _ h => h) hst (EffB.run rfl rfl (fun wd hS => ?_)) (.inl (by kernel_rfl)) ?_
  · (have c2 : wd.cell? ⟨Y, 1, none⟩ = some (.int .i64 c1) := by rw [cell_of_row _ _ _ _ _ _ hS.1.2]; rfl); go_wp2; exact ⟨rfl, Below.refl _ _⟩
  simp only [act_norm]
  refine wpAnyE_take 23 (v := .pointer (some ⟨Y, 0, none⟩)) rfl (by kernel_rfl) (by kernel_rfl) (by kernel_rfl) (fun _ _ _ h => h) hst (EffB.run rfl rfl (fun wd hS => ?_)) (.inr (EffB.run rfl rfl (fun wd hS => ?_))) ?_
  · (go_wp2; exact ⟨rfl, Below.refl _ _⟩)
  · (go_wp2; exact ⟨rfl, Below.refl _ _⟩)
  simp only [act_norm]
  refine wpAnyE_take 24 (v := .int .i64 ((n : Int) + k)) rfl (by kernel_rfl) (by kernel_rfl) (by kernel_rfl) (fun _ _ _ h => h) hst (EffB.run rfl rfl (fun wd hS => ?_)) (.inl (by kernel_rfl)) ?_
  · (have c2 : wd.cell? ⟨Y, 0, none⟩ = some (.int .i64 ((n : Int) + k)) := by rw [cell_of_row _ _ _ _ _ _ hS.1.2]; rfl); go_wp2; exact ⟨rfl, Below.refl _ _⟩
  simp only [act_norm]
  refine wpAnyE_take 25 (v := .int .i64 c4) rfl (by kernel_rfl) (by kernel_rfl) (by kernel_rfl) (fun _ _ _ h => h) hst (EffB.run rfl rfl (fun wd hS => ?_)) (.inl (by kernel_rfl)) ?_
  · (go_wp2_with fail; (with_reducible refine (ce wd).mono ?_); rintro e w'' ⟨rfl, rfl⟩; exact ⟨rfl, Below.refl _ _⟩)
  simp only [act_norm]
  refine wpAnyE_take 26 (v := .bool false) rfl (by kernel_rfl) (by kernel_rfl) (by kernel_rfl) (fun _ _ _ h => h) hst (EffB.run rfl rfl (fun wd hS => ?_)) (.inr (EffB.run rfl rfl (fun wd hS => ?_))) ?_
  · (go_wp2; exact ⟨rfl, Below.refl _ _⟩)
  · (go_wp2; exact ⟨rfl, Below.refl _ _⟩)
  simp only [act_norm]
  refine wpAnyE_take 27 (v := .bool false) rfl (by kernel_rfl) (by kernel_rfl) (by kernel_rfl) (fun _ _ _ h => h) hst (EffB.run rfl rfl (fun wd hS => ?_)) (.inr (EffB.run rfl rfl (fun wd hS => ?_))) ?_
  · (go_wp2; exact ⟨rfl, Below.refl _ _⟩)
  · (go_wp2; exact ⟨rfl, Below.refl _ _⟩)
  simp only [act_norm]
  refine wpAnyE_take 28 rfl (by kernel_rfl) (by kernel_rfl) (by kernel_rfl) (fun _ _ _ h => h) hst (EffB.pure rfl (fun _ => rfl)) (.inr (EffB.pure rfl (fun _ => rfl))) ?_
  simp only [act_norm]
  refine wpAnyE_take 29 (v := .pointer (some ⟨Y, 2, none⟩)) rfl (by kernel_rfl) (by kernel_rfl) (by kernel_rfl) (fun _ _ _ h => h) hst (EffB.run rfl rfl (fun wd hS => ?_)) (.inr (EffB.run rfl rfl (fun wd hS => ?_))) ?_
  · (go_wp2; exact ⟨rfl, Below.refl _ _⟩)
  · (go_wp2; exact ⟨rfl, Below.refl _ _⟩)
  simp only [act_norm]
  refine wpAnyE_take 30 (v := .int .i64 (min a2 b2)) rfl (by kernel_rfl) (by kernel_rfl) (by kernel_rfl) (fun _ _ _ h => h) hst (EffB.run rfl rfl (fun wd hS => ?_)) (.inl (by kernel_rfl)) ?_
  · (have c2 : wd.cell? ⟨Y, 2, none⟩ = some (.int .i64 (min a2 b2)) := by rw [cell_of_row _ _ _ _ _ _ hS.1.2]; rfl); go_wp2; exact ⟨rfl, Below.refl _ _⟩
  simp only [act_norm]
  refine wpAnyE_take 31 (v := .pointer (some ⟨X, 2, none⟩)) rfl (by kernel_rfl) (by kernel_rfl) (by kernel_rfl) (fun _ _ _ h => h) hst (EffB.run rfl rfl (fun wd hS => ?_)) (.inr (EffB.run rfl rfl (fun wd hS => ?_))) ?_
  · (go_wp2; exact ⟨rfl, Below.refl _ _⟩)
  · (go_wp2; exact ⟨rfl, Below.refl _ _⟩)
  simp only [act_norm]
  refine wpAnyE_take 32 (v := .int .i64 a2) rfl (by kernel_rfl) (by kernel_rfl) (by kernel_rfl) (fun _ _ _ h => h) hst (EffB.run rfl rfl (fun wd hS => ?_)) (.inl (by kernel_rfl)) ?_
  · (have c2 : wd.cell? ⟨X, 2, none⟩ = some (.int .i64 a2) := by rw [cell_of_row _ _ _ _ _ _ hS.1.1.1.2]; rfl); go_wp2; exact ⟨rfl, Below.refl _ _⟩
  simp only [act_norm]
  refine wpAnyE_take 33 (v := .pointer (some ⟨X + 1, 2, none⟩)) rfl (by kernel_rfl) (by kernel_rfl) (by kernel_rfl) (fun _ _ _ h => h) hst (EffB.run rfl rfl (fun wd hS => ?_)) (.inr (EffB.run rfl rfl (fun wd hS => ?_))) ?_
  · (go_wp2; exact ⟨rfl, Below.refl _ _⟩)
  · (go_wp2; exact ⟨rfl, Below.refl _ _⟩)
  simp only [act_norm]
  refine wpAnyE_take 34 (v := .int .i64 b2) rfl (by kernel_rfl) (by kernel_rfl) (by kernel_rfl) (fun _ _ _ h => h) hst (EffB.run rfl rfl (fun wd hS => ?_)) (.inl (by kernel_rfl)) ?_
  · (have c2 : wd.cell? ⟨X + 1, 2, none⟩ = some (.int .i64 b2) := by rw [cell_of_row _ _ _ _ _ _ hS.1.1.2]; rfl); go_wp2; exact ⟨rfl, Below.refl _ _⟩
  simp only [act_norm]
  refine wpAnyE_take 35 (v := .int .i64 (min a2 b2)) rfl (by kernel_rfl) (by kernel_rfl) (by kernel_rfl) (fun _ _ _ h => h) hst (EffB.run rfl rfl (fun wd hS => ?_)) (.inl (by kernel_rfl)) ?_
  · (by_cases hlt : (b2) < (a2); (· (rw [show min (a2) (b2) = b2 by omega]; go_wp2; exact ⟨rfl, Below.refl _ _⟩)); (· (rw [show min (a2) (b2) = a2 by omega]; have hge2 : ¬ (b2) < (a2) := hlt; go_wp2; exact ⟨rfl, Below.refl _ _⟩)))
  simp only [act_norm]
  refine wpAnyE_take 36 (v := .bool false) rfl (by kernel_rfl) (by kernel_rfl) (by kernel_rfl) (fun _ _ _ h => h) hst (EffB.run rfl rfl (fun wd hS => ?_)) (.inr (EffB.run rfl rfl (fun wd hS => ?_))) ?_
  · (go_wp2; exact ⟨rfl, Below.refl _ _⟩)
  · (go_wp2; exact ⟨rfl, Below.refl _ _⟩)
  simp only [act_norm]
  refine wpAnyE_take 37 (v := .bool false) rfl (by kernel_rfl) (by kernel_rfl) (by kernel_rfl) (fun _ _ _ h => h) hst (EffB.run rfl rfl (fun wd hS => ?_)) (.inr (EffB.run rfl rfl (fun wd hS => ?_))) ?_
  · (go_wp2; exact ⟨rfl, Below.refl _ _⟩)
  · (go_wp2; exact ⟨rfl, Below.refl _ _⟩)
  simp only [act_norm]
  refine wpAnyE_take 38 rfl (by kernel_rfl) (by kernel_rfl) (by kernel_rfl) (fun _ _ _ h => h) hst (EffB.pure rfl (fun _ => rfl)) (.inr (EffB.pure rfl (fun _ => rfl))) ?_
  simp only [act_norm]
  refine wpAnyE_take 39 (v := .pointer (some ⟨Y, 3, none⟩)) rfl (by kernel_rfl) (by kernel_rfl) (by kernel_rfl) (fun _ _ _ h => h) hst (EffB.run rfl rfl (fun wd hS => ?_)) (.inr (EffB.run rfl rfl (fun wd hS => ?_))) ?_
  · (go_wp2; exact ⟨rfl, Below.refl _ _⟩)
  · (go_wp2; exact ⟨rfl, Below.refl _ _⟩)
  simp only [act_norm]
  refine wpAnyE_take 40 (v := .int .i64 (max a3 b3)) rfl (by kernel_rfl) (by kernel_rfl) (by kernel_rfl) (fun _ _ _ h => h) hst (EffB.run rfl rfl (fun wd hS => ?_)) (.inl (by kernel_rfl)) ?_
  · (have c2 : wd.cell? ⟨Y, 3, none⟩ = some (.int .i64 (max a3 b3)) := by rw [cell_of_row _ _ _ _ _ _ hS.1.2]; rfl); go_wp2; exact ⟨rfl, Below.refl _ _⟩
  simp only [act_norm]
  refine wpAnyE_take 41 (v := .pointer (some ⟨X, 3, none⟩)) rfl (by kernel_rfl) (by kernel_rfl) (by kernel_rfl) (fun _ _ _ h => h) hst (EffB.run rfl rfl (fun wd hS => ?_)) (.inr (EffB.run rfl rfl (fun wd hS => ?_))) ?_
  · (go_wp2; exact ⟨rfl, Below.refl _ _⟩)
  · (go_wp2; exact ⟨rfl, Below.refl _ _⟩)
  simp only [act_norm]
  refine wpAnyE_take 42 (v := .int .i64 a3) rfl (by kernel_rfl) (by kernel_rfl) (by kernel_rfl) (fun _ _ _ h => h) hst (EffB.run rfl rfl (fun wd hS => ?_)) (.inl (by kernel_rfl)) ?_
  · (have c2 : wd.cell? ⟨X, 3, none⟩ = some (.int .i64 a3) := by rw [cell_of_row _ _ _ _ _ _ hS.1.1.1.2]; rfl); go_wp2; exact ⟨rfl, Below.refl _ _⟩
  simp only [act_norm]
  refine wpAnyE_take 43 (v := .pointer (some ⟨X + 1, 3, none⟩)) rfl (by kernel_rfl) (by kernel_rfl) (by kernel_rfl) (fun _ _ _ h => h) hst (EffB.run rfl rfl (fun wd hS => ?_)) (.inr (EffB.run rfl rfl (fun wd hS => ?_))) ?_
  · (go_wp2; exact ⟨rfl, Below.refl _ _⟩)
  · (go_wp2; exact ⟨rfl, Below.refl _ _⟩)
  simp only [act_norm]
  refine wpAnyE_take 44 (v := .int .i64 b3) rfl (by kernel_rfl) (by kernel_rfl) (by kernel_rfl) (fun _ _ _ h => h) hst (EffB.run rfl rfl (fun wd hS => ?_)) (.inl (by kernel_rfl)) ?_
  · (have c2 : wd.cell? ⟨X + 1, 3, none⟩ = some (.int .i64 b3) := by rw [cell_of_row _ _ _ _ _ _ hS.1.1.2]; rfl); go_wp2; exact ⟨rfl, Below.refl _ _⟩
  simp only [act_norm]
  refine wpAnyE_take 45 (v := .int .i64 (max a3 b3)) rfl (by kernel_rfl) (by kernel_rfl) (by kernel_rfl) (fun _ _ _ h => h) hst (EffB.run rfl rfl (fun wd hS => ?_)) (.inl (by kernel_rfl)) ?_
  · (by_cases hlt : (a3) < (b3); (· (rw [show max (a3) (b3) = b3 by omega]; go_wp2; exact ⟨rfl, Below.refl _ _⟩)); (· (rw [show max (a3) (b3) = a3 by omega]; have hge2 : ¬ (a3) < (b3) := hlt; go_wp2; exact ⟨rfl, Below.refl _ _⟩)))
  simp only [act_norm]
  refine wpAnyE_take 46 (v := .bool false) rfl (by kernel_rfl) (by kernel_rfl) (by kernel_rfl) (fun _ _ _ h => h) hst (EffB.run rfl rfl (fun wd hS => ?_)) (.inr (EffB.run rfl rfl (fun wd hS => ?_))) ?_
  · (go_wp2; exact ⟨rfl, Below.refl _ _⟩)
  · (go_wp2; exact ⟨rfl, Below.refl _ _⟩)
  simp only [act_norm]
  refine wpAnyE_take 47 (v := .bool false) rfl (by kernel_rfl) (by kernel_rfl) (by kernel_rfl) (fun _ _ _ h => h) hst (EffB.run rfl rfl (fun wd hS => ?_)) (.inr (EffB.run rfl rfl (fun wd hS => ?_))) ?_
  · (go_wp2; exact ⟨rfl, Below.refl _ _⟩)
  · (go_wp2; exact ⟨rfl, Below.refl _ _⟩)
  simp only [act_norm]
  refine wpAnyE_done (by kernel_rfl) (fun wd hS => ?_) _
  have HS2 := Lib.hid hS
  clear hS HS HT HB8 G5 G6 G7' HQ1
  go_wp2_with fail
  have en := EN.out
  have of := OF.out
  cases E with
  | true =>
    refine wp_region_E mixed [8] hst ⟨⟨⟨⟨below_drew HS2.out.1.1.1.1, HS2.out.1.1.1.2⟩, HS2.out.1.1.2⟩, HS2.out.1.2⟩, HS2.out.2⟩ ?_
    refine wpAnyE_take 0 rfl (by kernel_rfl) (by kernel_rfl) (by kernel_rfl) (fun _ _ _ h => h) hst (EffB.pure rfl (fun _ => rfl)) (.inr (EffB.pure rfl (fun _ => rfl))) ?_
    simp only [act_norm]
    refine wpAnyE_take 1 (v := .bool true) rfl (by kernel_rfl) (by kernel_rfl) (by kernel_rfl) (fun _ _ _ h => h) hst (EffB.run rfl rfl (fun wd hS => ?_)) (.inl (by kernel_rfl)) ?_
    · (go_wp2_with fail; (with_reducible refine (en _ _ wd hS.2).mono ?_); rintro e w'' ⟨rfl, hb⟩; exact ⟨rfl, hb⟩)
    simp only [act_norm]
    refine wpAnyE_take 2 rfl (by kernel_rfl) (by kernel_rfl) (by kernel_rfl) (fun _ _ _ h => h) hst (EffB.pure rfl (fun _ => rfl)) (.inr (EffB.pure rfl (fun _ => rfl))) ?_
    simp only [act_norm]
    refine wpAnyE_take 3 rfl (by kernel_rfl) (by kernel_rfl) (by kernel_rfl) (fun _ _ _ h => h) hst (EffB.skip rfl) (.inr (EffB.skip rfl)) ?_
    simp only [act_norm]
    refine wpAnyE_take 4 rfl (by kernel_rfl) (by kernel_rfl) (by kernel_rfl) (fun _ _ _ h => h) hst (EffB.skip rfl) (.inr (EffB.skip rfl)) ?_
    simp only [act_norm]
    refine wpAnyE_take 5 rfl (by kernel_rfl) (by kernel_rfl) (by kernel_rfl) (fun _ _ _ h => h) hst (EffB.skip rfl) (.inr (EffB.skip rfl)) ?_
    simp only [act_norm]
    refine wpAnyE_take 6 rfl (by kernel_rfl) (by kernel_rfl) (by kernel_rfl) (fun _ _ _ h => h) hst (EffB.skip rfl) (.inr (EffB.skip rfl)) ?_
    simp only [act_norm]
    refine wpAnyE_take 7 (v := .bool true) rfl (by kernel_rfl) (by kernel_rfl) (by kernel_rfl) (fun _ _ _ h => h) hst (EffB.run rfl rfl (fun wd hS => ?_)) (.inr (EffB.run rfl rfl (fun wd hS => ?_))) ?_
    · (go_wp2; exact ⟨rfl, Below.refl _ _⟩)
    · (go_wp2; exact ⟨rfl, Below.refl _ _⟩)
    simp only [act_norm]
    refine wpAnyE_take 8 (v := .bool true) rfl (by kernel_rfl) (by kernel_rfl) (by kernel_rfl) (fun _ _ _ h => h) hst (EffB.run rfl rfl (fun wd hS => ?_)) (.inr (EffB.run rfl rfl (fun wd hS => ?_))) ?_
    · (go_wp2; exact ⟨rfl, Below.refl _ _⟩)
    · (go_wp2; exact ⟨rfl, Below.refl _ _⟩)
    simp only [act_norm]
    refine wpAnyE_done (by kernel_rfl) (fun wd hS => ?_) _
    go_wp2
    go_ret
    exact ⟨rfl, hS.1.1.1.1⟩
  | false =>
    have of2 := of rfl
    refine wp_region_E mixed [8] hst ⟨⟨⟨⟨below_drew HS2.out.1.1.1.1, HS2.out.1.1.1.2⟩, HS2.out.1.1.2⟩, HS2.out.1.2⟩, HS2.out.2⟩ ?_
    refine wpAnyE_take 0 rfl (by kernel_rfl) (by kernel_rfl) (by kernel_rfl) (fun _ _ _ h => h) hst (EffB.pure rfl (fun _ => rfl)) (.inr (EffB.pure rfl (fun _ => rfl))) ?_
    simp only [act_norm]
    refine wpAnyE_take 1 (v := .bool false) rfl (by kernel_rfl) (by kernel_rfl) (by kernel_rfl) (fun _ _ _ h => h) hst (EffB.run rfl rfl (fun wd hS => ?_)) (.inl (by kernel_rfl)) ?_
    · (go_wp2_with fail; (with_reducible refine (en _ _ wd hS.2).mono ?_); rintro e w'' ⟨rfl, hb⟩; exact ⟨rfl, hb⟩)
    simp only [act_norm]
    refine wpAnyE_take 2 rfl (by kernel_rfl) (by kernel_rfl) (by kernel_rfl) (fun _ _ _ h => h) hst (EffB.pure rfl (fun _ => rfl)) (.inr (EffB.pure rfl (fun _ => rfl))) ?_
    simp only [act_norm]
    refine wpAnyE_take 3 (v := .agg #[.int .i64 ((n : Int) + k), .int .i64 c1, .int .i64 (min a2 b2), .int .i64 (max a3 b3), .int .i64 c4]) rfl (by kernel_rfl) (by kernel_rfl) (by kernel_rfl) (fun _ _ _ h => h) hst (EffB.run rfl rfl (fun wd hS => ?_)) (.inl (by kernel_rfl)) ?_
    · exact wp_load_row 32 _ rfl Y rfl 32 #[.int .i64 ((n : Int) + k), .int .i64 c1, .int .i64 (min a2 b2), .int .i64 (max a3 b3), .int .i64 c4] (0, 0) _ hS.1.2 Try.underlying32 rfl statInfo ⟨rfl, Below.refl _ _⟩
    simp only [act_norm]
    refine wpAnyE_take 4 rfl (by kernel_rfl) (by kernel_rfl) (by kernel_rfl) (fun _ _ _ h => h) hst (EffB.pure rfl (fun _ => rfl)) (.inr (EffB.pure rfl (fun _ => rfl))) ?_
    simp only [act_norm]
    refine wpAnyE_take 5 (v := .agg #[.int .i64 ((n : Int) + k), .int .i64 c1, .int .i64 (min a2 b2), .int .i64 (max a3 b3), .int .i64 c4]) rfl (by kernel_rfl) (by kernel_rfl) (by kernel_rfl) (fun _ _ _ h => h) hst (EffB.run rfl rfl (fun wd hS => ?_)) (.inl (by kernel_rfl)) ?_
    · (go_wp2_with fail; (with_reducible refine (of2 _ _ wd hS.2).mono ?_); rintro e w'' ⟨rfl, hb⟩; exact ⟨rfl, hb⟩)
    simp only [act_norm]
    refine wpAnyE_take 6 (v := .bool true) rfl (by kernel_rfl) (by kernel_rfl) (by kernel_rfl) (fun _ _ _ h => h) hst (EffB.run rfl rfl (fun wd hS => ?_)) (.inr (EffB.run rfl rfl (fun wd hS => ?_))) ?_
    · (go_wp2; exact ⟨rfl, Below.refl _ _⟩)
    · (go_wp2; exact ⟨rfl, Below.refl _ _⟩)
    simp only [act_norm]
    refine wpAnyE_take 7 (v := .bool true) rfl (by kernel_rfl) (by kernel_rfl) (by kernel_rfl) (fun _ _ _ h => h) hst (EffB.run rfl rfl (fun wd hS => ?_)) (.inr (EffB.run rfl rfl (fun wd hS => ?_))) ?_
    · (go_wp2; exact ⟨rfl, Below.refl _ _⟩)
    · (go_wp2; exact ⟨rfl, Below.refl _ _⟩)
    simp only [act_norm]
    refine wpAnyE_take 8 (v := .bool true) rfl (by kernel_rfl) (by kernel_rfl) (by kernel_rfl) (fun _ _ _ h => h) hst (EffB.run rfl rfl (fun wd hS => ?_)) (.inr (EffB.run rfl rfl (fun wd hS => ?_))) ?_
    · (go_wp2; exact ⟨rfl, Below.refl _ _⟩)
    · (go_wp2; exact ⟨rfl, Below.refl _ _⟩)
    simp only [act_norm]
    refine wpAnyE_done (by kernel_rfl) (fun wd hS => ?_) _
    go_wp2
    go_ret
    exact ⟨rfl, hS.1.1.1.1⟩
end Go.Proofs.Ytdchooggindihaa
