/- Layer 55: the law, walked: rows in one. -/
import Derived.Test.YtldhbgefpfmkmaaGreatJLoop3
namespace Go.Proofs.YtldhbgefpfmkmaaGreat
open Go.ChangeShapes Go.WideShapes Go.ChangeAt Go.RowKit

set_option maxRecDepth 100000 in
theorem law55_usual (w : World) : Calls Tryz.prog 11 #[] w fun e w' => e = .returned (.agg #[.int .i64 1, .int .i64 10, .int .i64 100, .int .i64 100, .int .i64 5, .int .i64 3]) ∧ Below w.heap.size w w' := by
  go_enter Tryz.func11, Tryz.ntmps11
  go_wp2_with ((with_reducible refine wpList_store_rowAs rfl 23 _ _ rfl (w.heap.size) #[.int .i64 1, .int .i64 10, .int .i64 100, .int .i64 100, .int .i64 5, .int .i64 3] ?_ ?_ 23 #[.int .i64 0, .int .i64 0, .int .i64 0, .int .i64 0, .int .i64 0, .int .i64 0] 6 ?_ (by kernel_rfl) rfl rfl (by simp [Value.oneCell']) ?_); exact rfl; exact rfl; exact (by first | (with_reducible exact heap_1_0 _ _) | (with_reducible exact heap_2_0 _ _ _) | (with_reducible exact heap_2_1 _ _ _) | (with_reducible exact heap_3_0 _ _ _ _) | (with_reducible exact heap_3_1 _ _ _ _) | (with_reducible exact heap_3_2 _ _ _ _) | (with_reducible exact heap_4_0 _ _ _ _ _) | (with_reducible exact heap_4_1 _ _ _ _ _) | (with_reducible exact heap_4_2 _ _ _ _ _) | (with_reducible exact heap_4_3 _ _ _ _ _) | (with_reducible exact heap_5_0 _ _ _ _ _ _) | (with_reducible exact heap_5_1 _ _ _ _ _ _) | (with_reducible exact heap_5_2 _ _ _ _ _ _) | (with_reducible exact heap_5_3 _ _ _ _ _ _) | (with_reducible exact heap_5_4 _ _ _ _ _ _) | (with_reducible exact heap_6_0 _ _ _ _ _ _ _) | (with_reducible exact heap_6_1 _ _ _ _ _ _ _) | (with_reducible exact heap_6_2 _ _ _ _ _ _ _) | (with_reducible exact heap_6_3 _ _ _ _ _ _ _) | (with_reducible exact heap_6_4 _ _ _ _ _ _ _) | (with_reducible exact heap_6_5 _ _ _ _ _ _ _) | simp only [heap_alloc_past, heap_alloc_at, World.size_alloc, Nat.add_assoc, Nat.reduceAdd, Nat.lt_add_right_iff_pos, Nat.add_lt_add_iff_left, Nat.reduceLT, Nat.zero_lt_succ, Nat.lt_add_one]); (first | rw [row_1_0] | rw [row_2_0] | rw [row_2_1] | rw [row_3_0] | rw [row_3_1] | rw [row_3_2] | rw [row_4_0] | rw [row_4_1] | rw [row_4_2] | rw [row_4_3] | rw [row_5_0] | rw [row_5_1] | rw [row_5_2] | rw [row_5_3] | rw [row_5_4] | rw [row_6_0] | rw [row_6_1] | rw [row_6_2] | rw [row_6_3] | rw [row_6_4] | rw [row_6_5] | simp only [setRow_alloc_past, setRow_alloc_at, World.size_alloc, Nat.add_assoc, Nat.reduceAdd, Nat.lt_add_right_iff_pos, Nat.add_lt_add_iff_left, Nat.reduceLT, Nat.zero_lt_succ, Nat.lt_add_one]))
  exact bodyPost_ret (results_cell_row rfl _ _ w.heap.size 23 #[.int .i64 1, .int .i64 10, .int .i64 100, .int .i64 100, .int .i64 5, .int .i64 3] (0, 0) _ rfl (heap_alloc_at _ _ _ rfl) Tryz.underlying23 rfl polInfo) rfl ⟨rfl, below1 _ _⟩

theorem awake55_rows : (LS.at ⟨1, 10, 100, 100, 5, 3⟩ (fun i => Shp.sum [⟨1, 250, 250, 1, 0⟩] i) 2).rows = [⟨0, 250, 1, 100, 150⟩, ⟨1, 250, 3, 300, 100⟩] := by decide +kernel
theorem awake55_err : Lp.err ⟨1, 10, 100, 100, 5, 3⟩ ((2 : Nat) : Int) [⟨1, 250, 250, 1, 0⟩] = 0 := by decide +kernel

set_option maxHeartbeats 1000000 in
set_option maxRecDepth 100000 in
theorem awake55 (w : World) : Calls Tryz.prog 4 #[] w fun e w' => e = .returned (.bool true) ∧ Below w.heap.size w w' := by
  have FU := Lib.hid law55_usual
  have F1 : Hid (∀ W : World, Calls Tryz.prog 6 #[.agg #[.int .i64 1, .int .i64 10, .int .i64 100, .int .i64 100, .int .i64 5, .int .i64 3], .int .i64 2, .slice (some ⟨W.heap.size, 0, none⟩) 1 1] (W.alloc (.cells #[.int .i64 1, .int .i64 250, .int .i64 250, .int .i64 1, .int .i64 0] 44)) fun e w' => ∃ g cap, e = .returned (.tuple #[.slice (some ⟨g, 0, none⟩) 2 cap, .int .i64 0]) ∧ w'.cell? ⟨g, 4, none⟩ = some (.int .i64 150) ∧ w'.cell? ⟨g, 7, none⟩ = some (.int .i64 3) ∧ w'.cell? ⟨g, 8, none⟩ = some (.int .i64 300) ∧ Below W.heap.size W w') := by
    intro W
    have hA : Advs (W.alloc (.cells #[.int .i64 1, .int .i64 250, .int .i64 250, .int .i64 1, .int .i64 0] 44)) (some ⟨W.heap.size, 0, none⟩) [⟨1, 250, 250, 1, 0⟩] := by
      refine .inr ⟨W.heap.size, 0, rfl, by simp, fun j hj => ?_⟩
      have hj5 : j < 5 := hj
      rw [cell_of_row _ _ _ _ _ _ (heap_alloc_at W _ _ rfl)]
      have : j = 0 ∨ j = 1 ∨ j = 2 ∨ j = 3 ∨ j = 4 := by omega
      rcases this with rfl | rfl | rfl | rfl | rfl <;> rfl
    have h := loop_run_good ⟨1, 10, 100, 100, 5, 3⟩ ⟨by simp [I64], by simp [I64], by simp [I64], by simp [I64], by simp [I64], by simp [I64]⟩ 2 (by omega) (some ⟨W.heap.size, 0, none⟩) 1 1 [⟨1, 250, 250, 1, 0⟩] (by intro a ha; simp at ha; subst ha; exact ⟨by simp [I64], by simp [I64], by simp [I64], by simp [I64], by simp [I64]⟩) rfl (by omega) awake55_err _ hA
    rw [awake55_rows] at h
    refine h.mono ?_
    rintro e w' ⟨u, rfl, ho, hb⟩
    obtain ⟨g, cap, rfl, _, _, _, hc, _⟩ := ho.some_of (by omega)
    exact ⟨g, cap, rfl, hc 4 _ rfl, hc 7 _ rfl, hc 8 _ rfl, (below1 W _).trans (hb.mono (below1 W _).size)⟩
  go_enter Tryz.func4, Tryz.ntmps4
  go_wp2_with fail
  (with_reducible refine (FU.out _).mono ?_)
  rintro e w1 ⟨rfl, hb1⟩
  have B1 := Lib.hid hb1
  clear hb1
  go_wp2_with fail
  (with_reducible refine (F1.out _).mono ?_)
  rintro e w2 ⟨g, cap, rfl, c4, c7, c8, hb2⟩
  have B2 := Lib.hid (B1.out.trans (hb2.mono B1.out.size))
  clear hb2
  go_wp2
  go_ret
  exact ⟨rfl, B2.out⟩

theorem row_equal_yes (a : Adv) (w : World) : (Op.equalIn 10000 39 (.agg #[.int .i64 a.tick, .int .i64 a.load, .int .i64 a.want, .int .i64 a.repl, .int .i64 a.why]) (.agg #[.int .i64 a.tick, .int .i64 a.load, .int .i64 a.want, .int .i64 a.repl, .int .i64 a.why])).run Tryz.prog w = .ok true w := by
  simp [go_sem]

theorem max3_runs {P : Program} (x y m : Int) (hx : 0 ≤ x) (hm : (x < y ∧ m = y) ∨ (¬ x < y ∧ m = x)) (w : World) (ts : Array TypeId) (t : TypeId) : (Builtin.max_ ts t #[.int .i64 x, .int .i64 y, .int .i64 0]).run P w = .ok (.int .i64 m) w := by
  have h0 : ∀ z : Int, 0 ≤ z → (if (0 : Int) > z then (0 : Int) else z) = z := fun z h => if_neg (by omega)
  rcases hm with ⟨h, rfl⟩ | ⟨h, rfl⟩
  · simp [Builtin.max_, Builtin.max2, List.foldlM, h, h0 m (by omega)]
  · simp [Builtin.max_, Builtin.max2, List.foldlM, h, h0 m hx]

end Go.Proofs.YtldhbgefpfmkmaaGreat
