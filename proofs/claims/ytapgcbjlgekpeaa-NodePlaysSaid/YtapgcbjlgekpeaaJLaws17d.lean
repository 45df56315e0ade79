/- Layer 17: the example; a config by definition; a nil node. -/
import Derived.Test.YtapgcbjlgekpeaaJLaws17c
namespace Go.Proofs.Ytapgcbjlgekpeaa
open Go.ChangeShapes Go.WideShapes Go.ChangeAt Go.RowKit

set_option maxHeartbeats 1000000 in
theorem ref17_right (c : Cfg) (hc : c.In) (r : Bool) (hr : (c.Fine → r = true) ∧ (¬ c.Fine → r = false)) (w : World) : Calls Try.prog 22 #[.agg #[.int .i64 c.st, .int .i64 c.sa, .int .i64 c.lo, .int .i64 c.hi]] w fun e w' => e = .returned (.bool r) ∧ Below w.heap.size w w' := by
  have P := Lib.hid (ref_bits c.st hc.st)
  have HY : Hid ((¬ 0 ≤ Route.bits c.st ∨ c.sa < 1 ∨ 256 < c.sa ∨ c.lo < 1 ∨ 256 < c.lo ∨ c.hi < 1 ∨ 64 < c.hi) → r = false) := fun h => hr.2 fun g => by rcases h with h | h | h | h | h | h | h <;> (have := g.st; have := g.sa; have := g.lo; have := g.hi; first | exact h g.st | omega)
  have HN : Hid (0 ≤ Route.bits c.st → ¬ c.sa < 1 → ¬ 256 < c.sa → ¬ c.lo < 1 → ¬ 256 < c.lo → ¬ c.hi < 1 → ¬ 64 < c.hi → r = true) := fun h0 h1 h2 h3 h4 h5 h6 => hr.1 ⟨h0, by omega, by omega, by omega⟩
  clear hc hr
  obtain ⟨st, sa, lo, hi⟩ := c
  simp only at P HY HN
  obtain ⟨b, hb⟩ : ∃ b, b = Route.bits st := ⟨_, rfl⟩
  rw [← hb] at P HY HN
  clear hb
  go_enter Try.func22, Try.ntmps22
  go_wp2_with ((with_reducible refine (P.out _).mono ?_); rintro e w1 ⟨rfl, rfl⟩)
  all_goals go_ret
  all_goals first
    | exact ⟨ret_bool (HY.out (by omega)).symm, below1 _ _⟩
    | (refine ⟨ret_bool ?_, below1 _ _⟩
       by_cases g : 0 ≤ b ∧ 1 ≤ sa ∧ sa ≤ 256 ∧ 1 ≤ lo ∧ lo ≤ 256 ∧ 1 ≤ hi ∧ hi ≤ 64
       · rw [HN.out g.1 (by omega) (by omega) (by omega) (by omega) (by omega) (by omega)]; simp; omega
       · rw [HY.out (by omega)]; simp; omega)

theorem small17 (w : World) : Calls Try.prog 19 #[] w fun e w' => e = .returned (.agg #[.int .i64 1, .int .i64 2, .int .i64 1, .int .i64 1]) ∧ Below w.heap.size w w' := by
  go_enter Try.func19, Try.ntmps19
  go_wp2_with ((with_reducible refine wpList_store_rowAs rfl 34 _ _ rfl (w.heap.size) #[.int .i64 1, .int .i64 2, .int .i64 1, .int .i64 1] ?_ ?_ 34 #[.int .i64 0, .int .i64 0, .int .i64 0, .int .i64 0] 4 ?_ (by kernel_rfl) rfl rfl (by simp [Value.oneCell']) ?_); exact rfl; exact rfl; exact (by first | (with_reducible exact heap_1_0 _ _) | (with_reducible exact heap_2_0 _ _ _) | (with_reducible exact heap_2_1 _ _ _) | (with_reducible exact heap_3_0 _ _ _ _) | (with_reducible exact heap_3_1 _ _ _ _) | (with_reducible exact heap_3_2 _ _ _ _) | (with_reducible exact heap_4_0 _ _ _ _ _) | (with_reducible exact heap_4_1 _ _ _ _ _) | (with_reducible exact heap_4_2 _ _ _ _ _) | (with_reducible exact heap_4_3 _ _ _ _ _) | (with_reducible exact heap_5_0 _ _ _ _ _ _) | (with_reducible exact heap_5_1 _ _ _ _ _ _) | (with_reducible exact heap_5_2 _ _ _ _ _ _) | (with_reducible exact heap_5_3 _ _ _ _ _ _) | (with_reducible exact heap_5_4 _ _ _ _ _ _) | (with_reducible exact heap_6_0 _ _ _ _ _ _ _) | (with_reducible exact heap_6_1 _ _ _ _ _ _ _) | (with_reducible exact heap_6_2 _ _ _ _ _ _ _) | (with_reducible exact heap_6_3 _ _ _ _ _ _ _) | (with_reducible exact heap_6_4 _ _ _ _ _ _ _) | (with_reducible exact heap_6_5 _ _ _ _ _ _ _) | simp only [heap_alloc_past, heap_alloc_at, World.size_alloc, Nat.add_assoc, Nat.reduceAdd, Nat.lt_add_right_iff_pos, Nat.add_lt_add_iff_left, Nat.reduceLT, Nat.zero_lt_succ, Nat.lt_add_one]); (first | rw [row_1_0] | rw [row_2_0] | rw [row_2_1] | rw [row_3_0] | rw [row_3_1] | rw [row_3_2] | rw [row_4_0] | rw [row_4_1] | rw [row_4_2] | rw [row_4_3] | rw [row_5_0] | rw [row_5_1] | rw [row_5_2] | rw [row_5_3] | rw [row_5_4] | rw [row_6_0] | rw [row_6_1] | rw [row_6_2] | rw [row_6_3] | rw [row_6_4] | rw [row_6_5] | simp only [setRow_alloc_past, setRow_alloc_at, World.size_alloc, Nat.add_assoc, Nat.reduceAdd, Nat.lt_add_right_iff_pos, Nat.add_lt_add_iff_left, Nat.reduceLT, Nat.zero_lt_succ, Nat.lt_add_one]))
  exact bodyPost_ret (results_cell_row rfl _ _ w.heap.size 34 #[.int .i64 1, .int .i64 2, .int .i64 1, .int .i64 1] (0, 0) _ rfl (heap_alloc_at _ _ _ rfl) Try.underlying34 rfl (by kernel_rfl)) rfl ⟨rfl, below1 _ _⟩
def Cfg.small : Cfg := ⟨1, 2, 1, 1⟩
theorem Cfg.small_fine : Cfg.small.Fine := ⟨by decide, by decide, by decide, by decide⟩
theorem Cfg.small_in : Cfg.small.In := ⟨by unfold I64; decide, by unfold I64; decide, by unfold I64; decide, by unfold I64; decide⟩

theorem NodeOf.old {w w' : World} {B rs rh : Nat} {i j : NI} {x y : NS} {fz : Bool} (h : NodeOf w B i true rs rh fz y j w') (k : NodeAt w B i rs rh true x) : NodeAt w' B i rs rh true x := k.turned h.turned (fun _ _ e => by cases e.1)

set_option maxHeartbeats 2000000 in
set_option maxRecDepth 100000 in
theorem awake17 (w : World) : Calls Try.prog 15 #[] w fun e w' => e = .returned (.bool true) ∧ Below w.heap.size w w' := by
  have P1 := Lib.hid small17
  have P2 : Hid (∀ W : World, Calls Try.prog 16 #[.agg #[.int .i64 1, .int .i64 2, .int .i64 1, .int .i64 1]] W fun e w' => ∃ j : NI, e = .returned j.ptr ∧ NodeAt w' W.heap.size j 2 1 false NS.zero ∧ Below W.heap.size W w') := fun W => node_new Cfg.small Cfg.small_in Cfg.small_fine 2 1 rfl rfl W
  go_enter Try.func15, Try.ntmps15
  go_wp2_with fail
  (with_reducible refine (P1.out _).mono ?_)
  rintro e w1 ⟨rfl, hb⟩
  have B1 := Lib.hid hb
  have P3 := Lib.hid (P2.out w1)
  clear hb P1 P2
  go_wp2_with fail
  (with_reducible refine P3.out.mono ?_)
  rintro e w2 ⟨j, rfl, hN, hb⟩
  have N2 := Lib.hid (hN.lift B1.out.size)
  have B2 := Lib.hid (B1.out.trans (hb.mono B1.out.size))
  have P4 := Lib.hid (node_freeze N2.out)
  clear hN hb P3 B1
  go_wp2_with fail
  (with_reducible refine P4.out.mono ?_)
  rintro e w3 ⟨rfl, hN⟩
  have N3 := Lib.hid hN.node
  have B3 := Lib.hid (B2.out.trans (hN.turned.below (B := w.heap.size) (fun k hk => (N2.out.lt k hk.2).1) B2.out.size))
  have hp := node_put N3.out (by show 0 ≤ 100000; omega) B3.out.size ⟨1, 5⟩ (by decide)
  have P5 := Lib.hid hp
  clear hN hp P4 N2 B2
  go_wp2_with fail
  (with_reducible refine P5.out.mono ?_)
  rintro e w4 ⟨m, rfl, hM⟩
  have NJ := Lib.hid (hM.old N3.out)
  have NM := Lib.hid hM.node
  have B4 := Lib.hid (B3.out.trans (hM.turned.below (B := w.heap.size) (fun k hk => by cases hk.1) B3.out.size))
  have V1 : Hid (Calls Try.prog 75 #[j.ptr] w4 fun e w' => e = .returned (.int .i64 0) ∧ w4 = w') := node_version NJ.out
  have V2 : Hid (Calls Try.prog 75 #[m.ptr] w4 fun e w' => e = .returned (.int .i64 1) ∧ w4 = w') := node_version NM.out
  have S1 : Hid (Calls Try.prog 76 #[m.ptr] w4 fun e w' => ∃ p c, e = .returned (.slice p 1 c) ∧ 1 ≤ c ∧ Samps w' p [⟨1, 5⟩] ∧ Below w4.heap.size w4 w') := node_samples NM.out
  clear hM P5 N3 B3
  go_wp2_with (first | ((with_reducible refine V1.out.mono ?_); rintro e w5 ⟨rfl, rfl⟩) | ((with_reducible refine V2.out.mono ?_); rintro e w5 ⟨rfl, rfl⟩) | fail)
  (with_reducible refine S1.out.mono ?_)
  rintro e w5 ⟨p, c, rfl, _, _, hb⟩
  have NJ5 := Lib.hid (NJ.out.below hb)
  have NM5 := Lib.hid (NM.out.below hb)
  have B5 := Lib.hid (B4.out.trans (hb.mono B4.out.size))
  have S2 : Hid (Calls Try.prog 76 #[j.ptr] w5 fun e w' => ∃ p c, e = .returned (.slice p 0 c) ∧ 0 ≤ c ∧ Samps w' p [] ∧ Below w5.heap.size w5 w') := node_samples NJ5.out
  clear hb V1 V2 S1 NJ NM B4
  go_wp2_with fail
  (with_reducible refine S2.out.mono ?_)
  rintro e w6 ⟨p6, c6, rfl, _, _, hb⟩
  have F1 := Lib.hid (node_frozen (NJ5.out.below hb))
  have F2 := Lib.hid (node_frozen (NM5.out.below hb))
  have B6 := Lib.hid (B5.out.trans (hb.mono B5.out.size))
  clear hb S2 NJ5 NM5 B5
  go_wp2_with (first | ((with_reducible refine F1.out.mono ?_); rintro e w7 ⟨rfl, rfl⟩) | ((with_reducible refine F2.out.mono ?_); rintro e w7 ⟨rfl, rfl⟩))
  go_ret
  exact ⟨rfl, B6.out⟩
end Go.Proofs.Ytapgcbjlgekpeaa
