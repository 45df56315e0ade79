/- Layer 16: the laws, walked. -/
import Derived.Test.YtildjnibdappnaaJDec4
import Derived.Test.YtildjnibdappnaaJBase
namespace Go.Proofs.Ytildjnibdappnaa
open Go.ChangeShapes Go.WideShapes Go.ChangeAt Go.RowKit

theorem stab_samps {q : Option Addr} {l : List Samp} : Stab (fun w' => Samps w' q l) := fun _ _ h hb => h.below hb

def usualPol : Pol := ⟨1, 10, 100, 100, 5, 3⟩

set_option maxRecDepth 100000 in
theorem law16_usual (w : World) : Calls Try.prog 58 #[] w fun e w' => e = .returned (.agg #[.int .i64 1, .int .i64 10, .int .i64 100, .int .i64 100, .int .i64 5, .int .i64 3]) ∧ Below w.heap.size w w' := by
  go_enter Try.func58, Try.ntmps58
  go_wp2_with ((with_reducible refine wpList_store_rowAs rfl 44 _ _ rfl (w.heap.size) #[.int .i64 1, .int .i64 10, .int .i64 100, .int .i64 100, .int .i64 5, .int .i64 3] ?_ ?_ 44 #[.int .i64 0, .int .i64 0, .int .i64 0, .int .i64 0, .int .i64 0, .int .i64 0] 6 ?_ (by kernel_rfl) rfl rfl (by simp [Value.oneCell']) ?_); exact rfl; exact rfl; exact (by first | (with_reducible exact heap_1_0 _ _) | (with_reducible exact heap_2_0 _ _ _) | (with_reducible exact heap_2_1 _ _ _) | (with_reducible exact heap_3_0 _ _ _ _) | (with_reducible exact heap_3_1 _ _ _ _) | (with_reducible exact heap_3_2 _ _ _ _) | (with_reducible exact heap_4_0 _ _ _ _ _) | (with_reducible exact heap_4_1 _ _ _ _ _) | (with_reducible exact heap_4_2 _ _ _ _ _) | (with_reducible exact heap_4_3 _ _ _ _ _) | (with_reducible exact heap_5_0 _ _ _ _ _ _) | (with_reducible exact heap_5_1 _ _ _ _ _ _) | (with_reducible exact heap_5_2 _ _ _ _ _ _) | (with_reducible exact heap_5_3 _ _ _ _ _ _) | (with_reducible exact heap_5_4 _ _ _ _ _ _) | (with_reducible exact heap_6_0 _ _ _ _ _ _ _) | (with_reducible exact heap_6_1 _ _ _ _ _ _ _) | (with_reducible exact heap_6_2 _ _ _ _ _ _ _) | (with_reducible exact heap_6_3 _ _ _ _ _ _ _) | (with_reducible exact heap_6_4 _ _ _ _ _ _ _) | (with_reducible exact heap_6_5 _ _ _ _ _ _ _) | simp only [heap_alloc_past, heap_alloc_at, World.size_alloc, Nat.add_assoc, Nat.reduceAdd, Nat.lt_add_right_iff_pos, Nat.add_lt_add_iff_left, Nat.reduceLT, Nat.zero_lt_succ, Nat.lt_add_one]); (first | rw [row_1_0] | rw [row_2_0] | rw [row_2_1] | rw [row_3_0] | rw [row_3_1] | rw [row_3_2] | rw [row_4_0] | rw [row_4_1] | rw [row_4_2] | rw [row_4_3] | rw [row_5_0] | rw [row_5_1] | rw [row_5_2] | rw [row_5_3] | rw [row_5_4] | rw [row_6_0] | rw [row_6_1] | rw [row_6_2] | rw [row_6_3] | rw [row_6_4] | rw [row_6_5] | simp only [setRow_alloc_past, setRow_alloc_at, World.size_alloc, Nat.add_assoc, Nat.reduceAdd, Nat.lt_add_right_iff_pos, Nat.add_lt_add_iff_left, Nat.reduceLT, Nat.zero_lt_succ, Nat.lt_add_one]))
  exact bodyPost_ret (results_cell_row rfl _ _ w.heap.size 44 #[.int .i64 1, .int .i64 10, .int .i64 100, .int .i64 100, .int .i64 5, .int .i64 3] (0, 0) _ rfl (heap_alloc_at _ _ _ rfl) Try.underlying44 rfl polInfo) rfl ⟨rfl, below1 _ _⟩

set_option maxHeartbeats 1000000 in
set_option maxRecDepth 100000 in
theorem awake16 (w : World) : Calls Try.prog 25 #[] w fun e w' => e = .returned (.bool true) ∧ Below w.heap.size w w' := by
  have hpin : usualPol.In := by unfold Pol.In I64 usualPol; simp
  have h1 : ∀ W : World, Calls Try.prog 57 #[.agg #[.int .i64 1, .int .i64 10, .int .i64 100, .int .i64 100, .int .i64 5, .int .i64 3], .slice (some ⟨W.heap.size, 0, none⟩) 1 1, .slice none 0 0] (W.alloc (.cells #[.int .i64 1, .int .i64 250] 88))
      fun e w' => e = .returned (.tuple #[.agg #[.int .i64 1, .int .i64 250, .int .i64 3, .int .i64 3, .int .i64 2], .int .i64 0]) ∧ Below W.heap.size W w' := by
    intro W
    have := decide_of usualPol hpin (some ⟨W.heap.size, 0, none⟩) 1 [⟨1, 250⟩] (by intro a ha; simp at ha; subst ha; unfold Samp.In I64; simp) (by simp) none 0 [] (by simp) (by simp) ⟨1, 250, 3, 3, 2⟩ (by decide +kernel) _ (samps_alloc W [⟨1, 250⟩] 88 _ rfl) (Or.inl rfl)
    rw [show Dec.err usualPol [⟨1, 250⟩] = 0 by decide +kernel] at this
    exact this.mono fun e w' ⟨a, b⟩ => ⟨a, (below1 W _).trans (b.mono (by simp))⟩
  have h2 : ∀ W : World, Calls Try.prog 57 #[.agg #[.int .i64 1, .int .i64 10, .int .i64 100, .int .i64 100, .int .i64 5, .int .i64 3], .slice none 0 0, .slice none 0 0] W
      fun e w' => e = .returned (.tuple #[.agg #[.int .i64 0, .int .i64 0, .int .i64 0, .int .i64 0, .int .i64 0], .int .i64 5]) ∧ Below W.heap.size W w' := by
    intro W
    have := decide_of usualPol hpin none 0 [] (by simp) (by simp) none 0 [] (by simp) (by simp) ⟨0, 0, 0, 0, 0⟩ (by decide +kernel) W (Or.inl rfl) (Or.inl rfl)
    rw [show Dec.err usualPol [] = 5 by decide +kernel] at this
    exact this
  have hu := law16_usual
  have H1 := Lib.hid h1
  have H2 := Lib.hid h2
  have HU := Lib.hid hu
  clear h1 h2 hu hpin
  go_enter Try.func25, Try.ntmps25
  go_wp2_with fail
  (with_reducible refine (HU.out _).mono ?_)
  rintro e w1 ⟨rfl, hb1⟩
  have M1 := Lib.hid ((Mem.start w).call hb1)
  clear hb1
  go_wp2_with fail
  (with_reducible refine (H1.out _).mono ?_)
  rintro e w2 ⟨rfl, hb2⟩
  have M2 := Lib.hid ((M1.out.call hb2).alloc (.cells #[.int .i64 1, .int .i64 250, .int .i64 3, .int .i64 3, .int .i64 2] 24))
  clear hb2 M1
  go_wp2_with ((with_reducible refine wpList_store_rowAs rfl 24 _ _ rfl (w2.heap.size) #[.int .i64 1, .int .i64 250, .int .i64 3, .int .i64 3, .int .i64 2] ?_ ?_ 24 #[.int .i64 0, .int .i64 0, .int .i64 0, .int .i64 0, .int .i64 0] 5 ?_ (by kernel_rfl) rfl rfl (by simp [Value.oneCell']) ?_); exact rfl; exact rfl; exact (heap_alloc_at _ _ _ rfl); (first | rw [row_1_0] | rw [row_2_0] | rw [row_2_1] | rw [row_3_0] | rw [row_3_1] | rw [row_3_2] | rw [row_4_0] | rw [row_4_1] | rw [row_4_2] | rw [row_4_3] | rw [row_5_0] | rw [row_5_1] | rw [row_5_2] | rw [row_5_3] | rw [row_5_4] | rw [row_6_0] | rw [row_6_1] | rw [row_6_2] | rw [row_6_3] | rw [row_6_4] | rw [row_6_5] | simp only [setRow_alloc_past, setRow_alloc_at, World.size_alloc, Nat.add_assoc, Nat.reduceAdd, Nat.lt_add_right_iff_pos, Nat.add_lt_add_iff_left, Nat.reduceLT, Nat.zero_lt_succ, Nat.lt_add_one]))
  (with_reducible refine (HU.out _).mono ?_)
  rintro e w3 ⟨rfl, hb3⟩
  have M3 := Lib.hid (M2.out.call hb3)
  clear hb3 M2
  go_wp2_with fail
  (with_reducible refine (H2.out _).mono ?_)
  rintro e w4 ⟨rfl, hb4⟩
  have M4 := Lib.hid ((M3.out.call hb4).alloc (.cells #[.int .i64 0, .int .i64 0, .int .i64 0, .int .i64 0, .int .i64 0] 24))
  have K4 := Lib.hid (M4.out.heap 0 rfl)
  clear hb4 M3
  go_wp2_with (first | ((with_reducible refine wpList_store_rowAs rfl 24 _ _ rfl (w4.heap.size) #[.int .i64 0, .int .i64 0, .int .i64 0, .int .i64 0, .int .i64 0] ?_ ?_ 24 #[.int .i64 0, .int .i64 0, .int .i64 0, .int .i64 0, .int .i64 0] 5 ?_ (by kernel_rfl) rfl rfl (by simp [Value.oneCell']) ?_); exact rfl; exact rfl; exact (heap_alloc_at _ _ _ rfl); (first | rw [row_1_0] | rw [row_2_0] | rw [row_2_1] | rw [row_3_0] | rw [row_3_1] | rw [row_3_2] | rw [row_4_0] | rw [row_4_1] | rw [row_4_2] | rw [row_4_3] | rw [row_5_0] | rw [row_5_1] | rw [row_5_2] | rw [row_5_3] | rw [row_5_4] | rw [row_6_0] | rw [row_6_1] | rw [row_6_2] | rw [row_6_3] | rw [row_6_4] | rw [row_6_5] | simp only [setRow_alloc_past, setRow_alloc_at, World.size_alloc, Nat.add_assoc, Nat.reduceAdd, Nat.lt_add_right_iff_pos, Nat.add_lt_add_iff_left, Nat.reduceLT, Nat.zero_lt_succ, Nat.lt_add_one])) | ((with_reducible refine wpList_load_rowG ?_ 24 _ rfl (w2.heap.size) ?_ 24 #[.int .i64 1, .int .i64 250, .int .i64 3, .int .i64 3, .int .i64 2] (0, 0) _ 5 ?_ Try.underlying24 rfl (by kernel_rfl) ?_ ?_); kernel_rfl; exact rfl; exact K4.out; exact rfl) | ((with_reducible refine wpList_eql_aggG ?_ _ _ _ _ rfl _ _ rfl rfl true (by kernel_rfl) (adv_equal_yes ⟨1, 250, 3, 3, 2⟩ _) ?_); kernel_rfl))
  go_ret
  exact ⟨rfl, M4.out.below⟩
end Go.Proofs.Ytildjnibdappnaa
