/- Layer 45: the law, walked: a policy with one number changed; numbers that rise. -/
import Derived.Test.YtildjnibdappnaaGreatJTune3
import Derived.Test.YtildjnibdappnaaGreatJBase
namespace Go.Proofs.YtildjnibdappnaaGreat
open Go.ChangeShapes Go.WideShapes Go.ChangeAt Go.RowKit

theorem pol_field5 (a b c d e f : Int) (w : World) : (Instr.field 23 (.agg #[.int .i64 a, .int .i64 b, .int .i64 c, .int .i64 d, .int .i64 e, .int .i64 f]) 5).run Tryz.prog w = .ok (.int .i64 f) w := by kernel_rfl
theorem stab_ints45 {q : Option Addr} {l : List Int} : Stab (fun w' => Ints .i64 w' q l) := fun _ _ h hb => h.below hb

set_option maxRecDepth 100000 in
theorem law45_usual (w : World) : Calls Tryz.prog 34 #[] w fun e w' => e = .returned (.agg #[.int .i64 1, .int .i64 10, .int .i64 100, .int .i64 100, .int .i64 5, .int .i64 3]) ∧ Below w.heap.size w w' := by
  go_enter Tryz.func34, Tryz.ntmps34
  go_wp2_with ((with_reducible refine wpList_store_rowAs rfl 23 _ _ rfl (w.heap.size) #[.int .i64 1, .int .i64 10, .int .i64 100, .int .i64 100, .int .i64 5, .int .i64 3] ?_ ?_ 23 #[.int .i64 0, .int .i64 0, .int .i64 0, .int .i64 0, .int .i64 0, .int .i64 0] 6 ?_ (by kernel_rfl) rfl rfl (by simp [Value.oneCell']) ?_); exact rfl; exact rfl; exact (by first | (with_reducible exact heap_1_0 _ _) | (with_reducible exact heap_2_0 _ _ _) | (with_reducible exact heap_2_1 _ _ _) | (with_reducible exact heap_3_0 _ _ _ _) | (with_reducible exact heap_3_1 _ _ _ _) | (with_reducible exact heap_3_2 _ _ _ _) | (with_reducible exact heap_4_0 _ _ _ _ _) | (with_reducible exact heap_4_1 _ _ _ _ _) | (with_reducible exact heap_4_2 _ _ _ _ _) | (with_reducible exact heap_4_3 _ _ _ _ _) | (with_reducible exact heap_5_0 _ _ _ _ _ _) | (with_reducible exact heap_5_1 _ _ _ _ _ _) | (with_reducible exact heap_5_2 _ _ _ _ _ _) | (with_reducible exact heap_5_3 _ _ _ _ _ _) | (with_reducible exact heap_5_4 _ _ _ _ _ _) | (with_reducible exact heap_6_0 _ _ _ _ _ _ _) | (with_reducible exact heap_6_1 _ _ _ _ _ _ _) | (with_reducible exact heap_6_2 _ _ _ _ _ _ _) | (with_reducible exact heap_6_3 _ _ _ _ _ _ _) | (with_reducible exact heap_6_4 _ _ _ _ _ _ _) | (with_reducible exact heap_6_5 _ _ _ _ _ _ _) | simp only [heap_alloc_past, heap_alloc_at, World.size_alloc, Nat.add_assoc, Nat.reduceAdd, Nat.lt_add_right_iff_pos, Nat.add_lt_add_iff_left, Nat.reduceLT, Nat.zero_lt_succ, Nat.lt_add_one]); (first | rw [row_1_0] | rw [row_2_0] | rw [row_2_1] | rw [row_3_0] | rw [row_3_1] | rw [row_3_2] | rw [row_4_0] | rw [row_4_1] | rw [row_4_2] | rw [row_4_3] | rw [row_5_0] | rw [row_5_1] | rw [row_5_2] | rw [row_5_3] | rw [row_5_4] | rw [row_6_0] | rw [row_6_1] | rw [row_6_2] | rw [row_6_3] | rw [row_6_4] | rw [row_6_5] | simp only [setRow_alloc_past, setRow_alloc_at, World.size_alloc, Nat.add_assoc, Nat.reduceAdd, Nat.lt_add_right_iff_pos, Nat.add_lt_add_iff_left, Nat.reduceLT, Nat.zero_lt_succ, Nat.lt_add_one]))
  exact bodyPost_ret (results_cell_row rfl _ _ w.heap.size 23 #[.int .i64 1, .int .i64 10, .int .i64 100, .int .i64 100, .int .i64 5, .int .i64 3] (0, 0) _ rfl (heap_alloc_at _ _ _ rfl) Tryz.underlying23 rfl polInfo) rfl ⟨rfl, below1 _ _⟩

set_option maxHeartbeats 1000000 in
set_option maxRecDepth 100000 in
theorem awake45 (w : World) : Calls Tryz.prog 12 #[] w fun e w' => e = .returned (.bool true) ∧ Below w.heap.size w w' := by
  have f1 := tune_ladder 0 10 (by unfold I64; omega) (by unfold I64; omega) 3 (by unfold I64; omega) w
  rw [show Lad.of 0 10 3 = [0, 5, 10] by decide +kernel] at f1
  have f2 : ∀ (p : Option Addr) (c : Nat) (W : World), Ints .i64 W p [0, 5, 10] → Calls Tryz.prog 32 #[.slice p 3 c, .slice (some ⟨W.heap.size, 0, none⟩) 3 3] (W.alloc (.cells #[.int .i64 0, .int .i64 5, .int .i64 10] 2)) fun e w' => e = .returned (.bool true) ∧ Below W.heap.size W w' := by
    intro p c W h
    have hb1 : Below W.heap.size W (W.alloc (.cells #[.int .i64 0, .int .i64 5, .int .i64 10] 2)) := below1 _ _
    have := ref_same p (some ⟨W.heap.size, 0, none⟩) c 3 [0, 5, 10] [0, 5, 10] _ (h.below hb1) (ints_alloc W [0, 5, 10] 2 _ rfl) (by simp) (by simp)
    rw [decide_eq_true rfl] at this
    exact this.mono fun e w' ⟨a, b⟩ => ⟨a, hb1.trans (b.mono hb1.size)⟩
  have f3 := fun W : World => tune_with ⟨1, 10, 100, 100, 5, 3⟩ 6 0 W
  rw [show Pol.with ⟨1, 10, 100, 100, 5, 3⟩ 6 0 = ⟨1, 10, 100, 100, 5, 0⟩ from rfl] at f3
  have F1 := Lib.hid f1
  have F2 := Lib.hid f2
  have F3 := Lib.hid f3
  have FU := Lib.hid law45_usual
  clear f1 f2 f3
  go_enter Tryz.func12, Tryz.ntmps12
  go_wp2_with fail
  (with_reducible refine F1.out.mono ?_)
  rintro e w1 ⟨p, c, rfl, _, hs, hb1⟩
  have HS := Lib.hid hs
  have B1 := Lib.hid hb1
  clear hs hb1
  go_wp2_with fail
  (with_reducible refine (F2.out p c w1 HS.out).mono ?_)
  rintro e w2 ⟨rfl, hb2⟩
  have B2 := Lib.hid (B1.out.trans (hb2.mono B1.out.size))
  clear hb2
  go_wp2_with fail
  (with_reducible refine (FU.out _).mono ?_)
  rintro e w3 ⟨rfl, hb3⟩
  have B3 := Lib.hid (B2.out.trans (hb3.mono B2.out.size))
  clear hb3
  go_wp2_with fail
  (with_reducible refine (F3.out _).mono ?_)
  rintro e w4 ⟨rfl, hb4⟩
  have B4 := Lib.hid (B3.out.trans (hb4.mono B3.out.size))
  clear hb4
  go_wp2_with (simp only [pol_field5])
  go_ret
  exact ⟨rfl, B4.out⟩

end Go.Proofs.YtildjnibdappnaaGreat
