/- Layer 9: two of what is told, as one. -/
import Derived.Test.YtdchooggindihaaStat5
namespace Go.Proofs.Ytdchooggindihaa
open Go.ChangeShapes Go.WideShapes Go.ChangeAt Go.RowKit Go.Deep

/-- No slice but the empty one has no place. -/
theorem trod_slice_none {H : Type} {enc : TypeId × Value → H} {P : Program} {w : World} {base : Nat} {sp : Nat → Bool} {hd : Bool} {t e : TypeId} {p : Option Addr} {n c : Nat} {d : DataW H} {ps : List MemPlace}
    (ht : P.underlying t = some (.slice e)) (h : DataW.Trod enc P w base sp hd t (.slice p n c) d ps) : p = none → n = 0 ∧ c = 0 := by
  obtain ⟨fuel, hf⟩ := h
  intro hp
  subst hp
  rcases open_slice ht hf with ⟨hcs, _⟩ | ⟨a, len, cap, m, n', D, Pl, hcs, _⟩
  · simpa [Value.cells] using hcs
  · simp [Value.cells] at hcs

def Stat.merge (x y : Stat) : Stat :=
  if x.count < 1 then y else if y.count < 1 then x
  else ⟨Sat.clamp (x.count + y.count), Sat.clamp (x.sum + y.sum), min x.least y.least, max x.most y.most, Sat.ceil (Sat.clamp (x.sum + y.sum)) (Sat.clamp (x.count + y.count))⟩
theorem Stat.merge_left {x y : Stat} (h : x.count < 1) : Stat.merge x y = y := by unfold Stat.merge; rw [if_pos h]
theorem Stat.merge_right {x y : Stat} (h : ¬ x.count < 1) (h2 : y.count < 1) : Stat.merge x y = x := by unfold Stat.merge; rw [if_neg h, if_pos h2]
theorem Stat.merge_both {x y : Stat} (h : ¬ x.count < 1) (h2 : ¬ y.count < 1) : Stat.merge x y = ⟨Sat.clamp (x.count + y.count), Sat.clamp (x.sum + y.sum), min x.least y.least, max x.most y.most, Sat.ceil (Sat.clamp (x.sum + y.sum)) (Sat.clamp (x.count + y.count))⟩ := by
  unfold Stat.merge; rw [if_neg h, if_neg h2]

theorem Sat.ceil_up (n d : Nat) (hn : n < 9223372036854775808) (hd : 0 < d) : Sat.ceil n d = Wide.up n d := by
  unfold Sat.ceil Wide.up
  rw [if_neg (by omega), if_neg (by omega)]
  have hle : n / d ≤ n := Nat.div_le_self _ _
  have e := Nat.div_add_mod n d
  have key : -(-(n : Int) / d) = ((n / d + (if n % d = 0 then 0 else 1) : Nat) : Int) := by
    have hm : n % d < d := Nat.mod_lt _ hd
    have e2 : (d : Int) * ((n / d : Nat) : Int) + ((n % d : Nat) : Int) = n := by exact_mod_cast e
    have : -(n : Int) / d = -((n / d + (if n % d = 0 then 0 else 1) : Nat) : Int) := by
      apply Sat.quo_of (by omega) <;> split <;> simp only [Int.natCast_add, Int.natCast_zero, Int.natCast_one, Int.mul_neg, Int.mul_add, Int.mul_one, Int.mul_zero] <;> omega
    omega
  rw [key]
  by_cases h0 : n % d = 0
  · rw [if_pos h0]
    unfold Bits.small
    rw [if_pos (by omega)]
  · rw [if_neg h0]
    have : n / d < 9223372036854775807 := by
      rcases Nat.lt_or_ge 1 d with h1 | h1
      · have := Nat.div_lt_self (n := n) (k := d) (Nat.pos_of_ne_zero fun h => h0 (by rw [h]; simp)) h1
        omega
      · obtain rfl : d = 1 := by omega
        omega
    unfold Bits.small
    rw [if_pos (by omega)]

/-- As long as no end is met. -/
theorem Stat.merge_of (a b : List Int) (ha : ∀ n ∈ a, 0 ≤ n) (hb : ∀ n ∈ b, 0 ≤ n) (h0 : a ≠ []) (h1 : b ≠ []) (hl : a.length + b.length ≤ 1000000) (h : Sat.sum (a ++ b) ≠ 9223372036854775807) :
    Stat.merge (Stat.of a) (Stat.of b) = Stat.of (a ++ b) := by
  have la : 0 < a.length := List.length_pos_iff.2 h0
  have lb : 0 < b.length := List.length_pos_iff.2 h1
  have hab : ∀ n ∈ a ++ b, 0 ≤ n := fun n hn => by rcases List.mem_append.1 hn with h | h; exact ha n h; exact hb n h
  rw [sum_total _ hab, total_append] at h
  have ht : Bits.total a + Bits.total b < 9223372036854775807 := by
    unfold Sat.clamp at h
    by_cases hh : Bits.total a + Bits.total b < 9223372036854775807
    · exact hh
    · rw [if_neg (by omega)] at h
      exfalso
      apply h
      split <;> omega
  have c1 : ∀ n : Nat, n < 9223372036854775807 → Sat.clamp n = n := fun n hn => Sat.clamp_of ⟨by omega, by omega⟩
  rw [Stat.of_some (by omega : ¬ a.length = 0), Stat.of_some (by omega : ¬ b.length = 0), Stat.merge_both (by show ¬ (a.length : Int) < 1; omega) (by show ¬ (b.length : Int) < 1; omega), Stat.of_some (by rw [List.length_append]; omega)]
  have e1 : Sat.clamp ((a.length : Int) + b.length) = ((a ++ b).length : Int) := by
    rw [List.length_append, ← c1 (a.length + b.length) (by omega)]
    rfl
  have e2 : Sat.clamp (Sat.sum a + Sat.sum b) = Sat.sum (a ++ b) := by
    rw [sum_total _ ha, sum_total _ hb, sum_total _ hab, total_append, c1 _ (by omega), c1 _ (by omega)]
    rfl
  have e3 : Sat.sum (a ++ b) = (Bits.total (a ++ b) : Nat) := by rw [sum_total _ hab, total_append, c1 _ ht]
  show Stat.mk (Sat.clamp ((a.length : Int) + b.length)) (Sat.clamp (Sat.sum a + Sat.sum b)) (min (lmin a) (lmin b)) (max (lmax a) (lmax b)) (Sat.ceil (Sat.clamp (Sat.sum a + Sat.sum b)) (Sat.clamp ((a.length : Int) + b.length))) = _
  rw [e1, e2, lmin_append h0 h1, lmax_append h0 h1, e3, Sat.ceil_up _ _ (by rw [total_append]; omega) (by rw [List.length_append]; omega)]

set_option maxHeartbeats 2000000 in
set_option maxRecDepth 100000 in
theorem window_merge_left (x y : Stat) (h1 : I64 x.count) (h2 : I64 y.count) (h3 : I64 x.sum) (h4 : I64 y.sum) (c1 : x.count < 1) (z : Stat) (ez : z = Stat.merge x y) (w : World) :
    Calls Try.prog 26 #[.agg #[.int .i64 x.count, .int .i64 x.sum, .int .i64 x.least, .int .i64 x.most, .int .i64 x.mean], .agg #[.int .i64 y.count, .int .i64 y.sum, .int .i64 y.least, .int .i64 y.most, .int .i64 y.mean]] w fun e w' => e = .returned (.agg #[.int .i64 z.count, .int .i64 z.sum, .int .i64 z.least, .int .i64 z.most, .int .i64 z.mean]) ∧ Below w.heap.size w w' := by
  obtain ⟨a0, a1, a2, a3, a4⟩ := x
  obtain ⟨b0, b1, b2, b3, b4⟩ := y
  simp only at h1 h2 h3 h4 c1
  have hB3 : ∀ cs : Array Value, Below w.heap.size w (((w.alloc (.cells #[.int .i64 a0, .int .i64 a1, .int .i64 a2, .int .i64 a3, .int .i64 a4] 32)).alloc (.cells #[.int .i64 b0, .int .i64 b1, .int .i64 b2, .int .i64 b3, .int .i64 b4] 32)).alloc (.cells cs 32)) :=
    fun cs => (((Below.refl _ _).alloc (Nat.le_refl _) _).alloc (by simp) _).alloc (by simp; omega) _
  rw [Stat.merge_left c1] at ez
  subst ez
  go_enter Try.func26, Try.ntmps26
  go_wp2_with (first | ((with_reducible refine wpList_load_rowAs rfl 32 _ rfl ((w.heap.size + 1)) ?_ 32 #[.int .i64 b0, .int .i64 b1, .int .i64 b2, .int .i64 b3, .int .i64 b4] (0, 0) _ 5 ?_ Try.underlying32 rfl (by kernel_rfl) ?_ ?_); exact rfl; exact (by first | (with_reducible exact heap_1_0 _ _) | (with_reducible exact heap_2_0 _ _ _) | (with_reducible exact heap_2_1 _ _ _) | (with_reducible exact heap_3_0 _ _ _ _) | (with_reducible exact heap_3_1 _ _ _ _) | (with_reducible exact heap_3_2 _ _ _ _) | (with_reducible exact heap_4_0 _ _ _ _ _) | (with_reducible exact heap_4_1 _ _ _ _ _) | (with_reducible exact heap_4_2 _ _ _ _ _) | (with_reducible exact heap_4_3 _ _ _ _ _) | (with_reducible exact heap_5_0 _ _ _ _ _ _) | (with_reducible exact heap_5_1 _ _ _ _ _ _) | (with_reducible exact heap_5_2 _ _ _ _ _ _) | (with_reducible exact heap_5_3 _ _ _ _ _ _) | (with_reducible exact heap_5_4 _ _ _ _ _ _) | (with_reducible exact heap_6_0 _ _ _ _ _ _ _) | (with_reducible exact heap_6_1 _ _ _ _ _ _ _) | (with_reducible exact heap_6_2 _ _ _ _ _ _ _) | (with_reducible exact heap_6_3 _ _ _ _ _ _ _) | (with_reducible exact heap_6_4 _ _ _ _ _ _ _) | (with_reducible exact heap_6_5 _ _ _ _ _ _ _) | simp only [heap_alloc_past, heap_alloc_at, World.size_alloc, Nat.add_assoc, Nat.reduceAdd, Nat.lt_add_right_iff_pos, Nat.add_lt_add_iff_left, Nat.reduceLT, Nat.zero_lt_succ, Nat.lt_add_one]); exact rfl) | ((with_reducible refine wpList_store_rowAs rfl 32 _ _ rfl ((w.heap.size + 2)) #[.int .i64 b0, .int .i64 b1, .int .i64 b2, .int .i64 b3, .int .i64 b4] ?_ ?_ 32 #[.int .i64 0, .int .i64 0, .int .i64 0, .int .i64 0, .int .i64 0] 5 ?_ (by kernel_rfl) rfl rfl (by simp [Value.oneCell']) ?_); exact rfl; exact rfl; exact (by first | (with_reducible exact heap_1_0 _ _) | (with_reducible exact heap_2_0 _ _ _) | (with_reducible exact heap_2_1 _ _ _) | (with_reducible exact heap_3_0 _ _ _ _) | (with_reducible exact heap_3_1 _ _ _ _) | (with_reducible exact heap_3_2 _ _ _ _) | (with_reducible exact heap_4_0 _ _ _ _ _) | (with_reducible exact heap_4_1 _ _ _ _ _) | (with_reducible exact heap_4_2 _ _ _ _ _) | (with_reducible exact heap_4_3 _ _ _ _ _) | (with_reducible exact heap_5_0 _ _ _ _ _ _) | (with_reducible exact heap_5_1 _ _ _ _ _ _) | (with_reducible exact heap_5_2 _ _ _ _ _ _) | (with_reducible exact heap_5_3 _ _ _ _ _ _) | (with_reducible exact heap_5_4 _ _ _ _ _ _) | (with_reducible exact heap_6_0 _ _ _ _ _ _ _) | (with_reducible exact heap_6_1 _ _ _ _ _ _ _) | (with_reducible exact heap_6_2 _ _ _ _ _ _ _) | (with_reducible exact heap_6_3 _ _ _ _ _ _ _) | (with_reducible exact heap_6_4 _ _ _ _ _ _ _) | (with_reducible exact heap_6_5 _ _ _ _ _ _ _) | simp only [heap_alloc_past, heap_alloc_at, World.size_alloc, Nat.add_assoc, Nat.reduceAdd, Nat.lt_add_right_iff_pos, Nat.add_lt_add_iff_left, Nat.reduceLT, Nat.zero_lt_succ, Nat.lt_add_one]); (first | rw [row_1_0] | rw [row_2_0] | rw [row_2_1] | rw [row_3_0] | rw [row_3_1] | rw [row_3_2] | rw [row_4_0] | rw [row_4_1] | rw [row_4_2] | rw [row_4_3] | rw [row_5_0] | rw [row_5_1] | rw [row_5_2] | rw [row_5_3] | rw [row_5_4] | rw [row_6_0] | rw [row_6_1] | rw [row_6_2] | rw [row_6_3] | rw [row_6_4] | rw [row_6_5] | simp only [setRow_alloc_past, setRow_alloc_at, World.size_alloc, Nat.add_assoc, Nat.reduceAdd, Nat.lt_add_right_iff_pos, Nat.add_lt_add_iff_left, Nat.reduceLT, Nat.zero_lt_succ, Nat.lt_add_one])))
  exact bodyPost_ret (results_cell_row rfl _ _ (w.heap.size + 2) 32 #[.int .i64 b0, .int .i64 b1, .int .i64 b2, .int .i64 b3, .int .i64 b4] (0, 0) _ rfl (by first | (with_reducible exact heap_1_0 _ _) | (with_reducible exact heap_2_0 _ _ _) | (with_reducible exact heap_2_1 _ _ _) | (with_reducible exact heap_3_0 _ _ _ _) | (with_reducible exact heap_3_1 _ _ _ _) | (with_reducible exact heap_3_2 _ _ _ _) | (with_reducible exact heap_4_0 _ _ _ _ _) | (with_reducible exact heap_4_1 _ _ _ _ _) | (with_reducible exact heap_4_2 _ _ _ _ _) | (with_reducible exact heap_4_3 _ _ _ _ _) | (with_reducible exact heap_5_0 _ _ _ _ _ _) | (with_reducible exact heap_5_1 _ _ _ _ _ _) | (with_reducible exact heap_5_2 _ _ _ _ _ _) | (with_reducible exact heap_5_3 _ _ _ _ _ _) | (with_reducible exact heap_5_4 _ _ _ _ _ _) | (with_reducible exact heap_6_0 _ _ _ _ _ _ _) | (with_reducible exact heap_6_1 _ _ _ _ _ _ _) | (with_reducible exact heap_6_2 _ _ _ _ _ _ _) | (with_reducible exact heap_6_3 _ _ _ _ _ _ _) | (with_reducible exact heap_6_4 _ _ _ _ _ _ _) | (with_reducible exact heap_6_5 _ _ _ _ _ _ _) | simp only [heap_alloc_past, heap_alloc_at, World.size_alloc, Nat.add_assoc, Nat.reduceAdd, Nat.lt_add_right_iff_pos, Nat.add_lt_add_iff_left, Nat.reduceLT, Nat.zero_lt_succ, Nat.lt_add_one]) Try.underlying32 rfl statInfo) rfl ⟨rfl, hB3 _⟩

set_option maxHeartbeats 2000000 in
set_option maxRecDepth 100000 in
theorem window_merge_right (x y : Stat) (h1 : I64 x.count) (h2 : I64 y.count) (h3 : I64 x.sum) (h4 : I64 y.sum) (c1 : ¬ x.count < 1) (c2 : y.count < 1) (z : Stat) (ez : z = Stat.merge x y) (w : World) :
    Calls Try.prog 26 #[.agg #[.int .i64 x.count, .int .i64 x.sum, .int .i64 x.least, .int .i64 x.most, .int .i64 x.mean], .agg #[.int .i64 y.count, .int .i64 y.sum, .int .i64 y.least, .int .i64 y.most, .int .i64 y.mean]] w fun e w' => e = .returned (.agg #[.int .i64 z.count, .int .i64 z.sum, .int .i64 z.least, .int .i64 z.most, .int .i64 z.mean]) ∧ Below w.heap.size w w' := by
  obtain ⟨a0, a1, a2, a3, a4⟩ := x
  obtain ⟨b0, b1, b2, b3, b4⟩ := y
  simp only at h1 h2 h3 h4 c1 c2
  have hB3 : ∀ cs : Array Value, Below w.heap.size w (((w.alloc (.cells #[.int .i64 a0, .int .i64 a1, .int .i64 a2, .int .i64 a3, .int .i64 a4] 32)).alloc (.cells #[.int .i64 b0, .int .i64 b1, .int .i64 b2, .int .i64 b3, .int .i64 b4] 32)).alloc (.cells cs 32)) :=
    fun cs => (((Below.refl _ _).alloc (Nat.le_refl _) _).alloc (by simp) _).alloc (by simp; omega) _
  rw [Stat.merge_right c1 c2] at ez
  subst ez
  go_enter Try.func26, Try.ntmps26
  go_wp2_with (first | ((with_reducible refine wpList_load_rowAs rfl 32 _ rfl (w.heap.size) ?_ 32 #[.int .i64 a0, .int .i64 a1, .int .i64 a2, .int .i64 a3, .int .i64 a4] (0, 0) _ 5 ?_ Try.underlying32 rfl (by kernel_rfl) ?_ ?_); exact rfl; exact (by first | (with_reducible exact heap_1_0 _ _) | (with_reducible exact heap_2_0 _ _ _) | (with_reducible exact heap_2_1 _ _ _) | (with_reducible exact heap_3_0 _ _ _ _) | (with_reducible exact heap_3_1 _ _ _ _) | (with_reducible exact heap_3_2 _ _ _ _) | (with_reducible exact heap_4_0 _ _ _ _ _) | (with_reducible exact heap_4_1 _ _ _ _ _) | (with_reducible exact heap_4_2 _ _ _ _ _) | (with_reducible exact heap_4_3 _ _ _ _ _) | (with_reducible exact heap_5_0 _ _ _ _ _ _) | (with_reducible exact heap_5_1 _ _ _ _ _ _) | (with_reducible exact heap_5_2 _ _ _ _ _ _) | (with_reducible exact heap_5_3 _ _ _ _ _ _) | (with_reducible exact heap_5_4 _ _ _ _ _ _) | (with_reducible exact heap_6_0 _ _ _ _ _ _ _) | (with_reducible exact heap_6_1 _ _ _ _ _ _ _) | (with_reducible exact heap_6_2 _ _ _ _ _ _ _) | (with_reducible exact heap_6_3 _ _ _ _ _ _ _) | (with_reducible exact heap_6_4 _ _ _ _ _ _ _) | (with_reducible exact heap_6_5 _ _ _ _ _ _ _) | simp only [heap_alloc_past, heap_alloc_at, World.size_alloc, Nat.add_assoc, Nat.reduceAdd, Nat.lt_add_right_iff_pos, Nat.add_lt_add_iff_left, Nat.reduceLT, Nat.zero_lt_succ, Nat.lt_add_one]); exact rfl) | ((with_reducible refine wpList_store_rowAs rfl 32 _ _ rfl ((w.heap.size + 2)) #[.int .i64 a0, .int .i64 a1, .int .i64 a2, .int .i64 a3, .int .i64 a4] ?_ ?_ 32 #[.int .i64 0, .int .i64 0, .int .i64 0, .int .i64 0, .int .i64 0] 5 ?_ (by kernel_rfl) rfl rfl (by simp [Value.oneCell']) ?_); exact rfl; exact rfl; exact (by first | (with_reducible exact heap_1_0 _ _) | (with_reducible exact heap_2_0 _ _ _) | (with_reducible exact heap_2_1 _ _ _) | (with_reducible exact heap_3_0 _ _ _ _) | (with_reducible exact heap_3_1 _ _ _ _) | (with_reducible exact heap_3_2 _ _ _ _) | (with_reducible exact heap_4_0 _ _ _ _ _) | (with_reducible exact heap_4_1 _ _ _ _ _) | (with_reducible exact heap_4_2 _ _ _ _ _) | (with_reducible exact heap_4_3 _ _ _ _ _) | (with_reducible exact heap_5_0 _ _ _ _ _ _) | (with_reducible exact heap_5_1 _ _ _ _ _ _) | (with_reducible exact heap_5_2 _ _ _ _ _ _) | (with_reducible exact heap_5_3 _ _ _ _ _ _) | (with_reducible exact heap_5_4 _ _ _ _ _ _) | (with_reducible exact heap_6_0 _ _ _ _ _ _ _) | (with_reducible exact heap_6_1 _ _ _ _ _ _ _) | (with_reducible exact heap_6_2 _ _ _ _ _ _ _) | (with_reducible exact heap_6_3 _ _ _ _ _ _ _) | (with_reducible exact heap_6_4 _ _ _ _ _ _ _) | (with_reducible exact heap_6_5 _ _ _ _ _ _ _) | simp only [heap_alloc_past, heap_alloc_at, World.size_alloc, Nat.add_assoc, Nat.reduceAdd, Nat.lt_add_right_iff_pos, Nat.add_lt_add_iff_left, Nat.reduceLT, Nat.zero_lt_succ, Nat.lt_add_one]); (first | rw [row_1_0] | rw [row_2_0] | rw [row_2_1] | rw [row_3_0] | rw [row_3_1] | rw [row_3_2] | rw [row_4_0] | rw [row_4_1] | rw [row_4_2] | rw [row_4_3] | rw [row_5_0] | rw [row_5_1] | rw [row_5_2] | rw [row_5_3] | rw [row_5_4] | rw [row_6_0] | rw [row_6_1] | rw [row_6_2] | rw [row_6_3] | rw [row_6_4] | rw [row_6_5] | simp only [setRow_alloc_past, setRow_alloc_at, World.size_alloc, Nat.add_assoc, Nat.reduceAdd, Nat.lt_add_right_iff_pos, Nat.add_lt_add_iff_left, Nat.reduceLT, Nat.zero_lt_succ, Nat.lt_add_one])))
  exact bodyPost_ret (results_cell_row rfl _ _ (w.heap.size + 2) 32 #[.int .i64 a0, .int .i64 a1, .int .i64 a2, .int .i64 a3, .int .i64 a4] (0, 0) _ rfl (by first | (with_reducible exact heap_1_0 _ _) | (with_reducible exact heap_2_0 _ _ _) | (with_reducible exact heap_2_1 _ _ _) | (with_reducible exact heap_3_0 _ _ _ _) | (with_reducible exact heap_3_1 _ _ _ _) | (with_reducible exact heap_3_2 _ _ _ _) | (with_reducible exact heap_4_0 _ _ _ _ _) | (with_reducible exact heap_4_1 _ _ _ _ _) | (with_reducible exact heap_4_2 _ _ _ _ _) | (with_reducible exact heap_4_3 _ _ _ _ _) | (with_reducible exact heap_5_0 _ _ _ _ _ _) | (with_reducible exact heap_5_1 _ _ _ _ _ _) | (with_reducible exact heap_5_2 _ _ _ _ _ _) | (with_reducible exact heap_5_3 _ _ _ _ _ _) | (with_reducible exact heap_5_4 _ _ _ _ _ _) | (with_reducible exact heap_6_0 _ _ _ _ _ _ _) | (with_reducible exact heap_6_1 _ _ _ _ _ _ _) | (with_reducible exact heap_6_2 _ _ _ _ _ _ _) | (with_reducible exact heap_6_3 _ _ _ _ _ _ _) | (with_reducible exact heap_6_4 _ _ _ _ _ _ _) | (with_reducible exact heap_6_5 _ _ _ _ _ _ _) | simp only [heap_alloc_past, heap_alloc_at, World.size_alloc, Nat.add_assoc, Nat.reduceAdd, Nat.lt_add_right_iff_pos, Nat.add_lt_add_iff_left, Nat.reduceLT, Nat.zero_lt_succ, Nat.lt_add_one]) Try.underlying32 rfl statInfo) rfl ⟨rfl, hB3 _⟩

set_option maxHeartbeats 2000000 in
set_option maxRecDepth 100000 in
theorem window_merge_both (x y : Stat) (h1 : I64 x.count) (h2 : I64 y.count) (h3 : I64 x.sum) (h4 : I64 y.sum) (c1 : ¬ x.count < 1) (c2 : ¬ y.count < 1) (z : Stat) (ez : z = Stat.merge x y) (w : World) :
    Calls Try.prog 26 #[.agg #[.int .i64 x.count, .int .i64 x.sum, .int .i64 x.least, .int .i64 x.most, .int .i64 x.mean], .agg #[.int .i64 y.count, .int .i64 y.sum, .int .i64 y.least, .int .i64 y.most, .int .i64 y.mean]] w fun e w' => e = .returned (.agg #[.int .i64 z.count, .int .i64 z.sum, .int .i64 z.least, .int .i64 z.most, .int .i64 z.mean]) ∧ Below w.heap.size w w' := by
  obtain ⟨a0, a1, a2, a3, a4⟩ := x
  obtain ⟨b0, b1, b2, b3, b4⟩ := y
  simp only at h1 h2 h3 h4 c1 c2
  have hB3 : ∀ cs : Array Value, Below w.heap.size w (((w.alloc (.cells #[.int .i64 a0, .int .i64 a1, .int .i64 a2, .int .i64 a3, .int .i64 a4] 32)).alloc (.cells #[.int .i64 b0, .int .i64 b1, .int .i64 b2, .int .i64 b3, .int .i64 b4] 32)).alloc (.cells cs 32)) :=
    fun cs => (((Below.refl _ _).alloc (Nat.le_refl _) _).alloc (by simp) _).alloc (by simp; omega) _
  rw [Stat.merge_both c1 c2] at ez
  simp only at ez
  have hA := sat_add a0 b0 h1 h2
  have hB := sat_add a1 b1 h3 h4
  have hsI := Sat.clamp_I64 (a1 + b1)
  obtain ⟨c, ec⟩ : ∃ c, c = Sat.clamp (a0 + b0) := ⟨_, rfl⟩
  obtain ⟨s, es⟩ : ∃ c, c = Sat.clamp (a1 + b1) := ⟨_, rfl⟩
  rw [← ec] at hA ez
  rw [← es] at hB hsI ez
  have hC := sat_ceil s c hsI
  obtain ⟨m, em⟩ : ∃ m, m = Sat.ceil s c := ⟨_, rfl⟩
  rw [← em] at hC ez
  subst ez
  have HA := Lib.hid (fun W : World => (hA W).mono (R' := fun e w' => e = .returned (.int .i64 c) ∧ w' = W) fun _ _ h => ⟨h.1, h.2.symm⟩)
  have HB := Lib.hid (fun W : World => (hB W).mono (R' := fun e w' => e = .returned (.int .i64 s) ∧ w' = W) fun _ _ h => ⟨h.1, h.2.symm⟩)
  have HC := Lib.hid hC
  have h3B := hB3 #[.int .i64 0, .int .i64 0, .int .i64 0, .int .i64 0, .int .i64 0]
  have k0 : (((w.alloc (.cells #[.int .i64 a0, .int .i64 a1, .int .i64 a2, .int .i64 a3, .int .i64 a4] 32)).alloc (.cells #[.int .i64 b0, .int .i64 b1, .int .i64 b2, .int .i64 b3, .int .i64 b4] 32)).alloc (.cells #[.int .i64 0, .int .i64 0, .int .i64 0, .int .i64 0, .int .i64 0] 32)).heap[w.heap.size]? = some (.cells #[.int .i64 a0, .int .i64 a1, .int .i64 a2, .int .i64 a3, .int .i64 a4] 32 (0, 0)) := (by first | (with_reducible exact heap_1_0 _ _) | (with_reducible exact heap_2_0 _ _ _) | (with_reducible exact heap_2_1 _ _ _) | (with_reducible exact heap_3_0 _ _ _ _) | (with_reducible exact heap_3_1 _ _ _ _) | (with_reducible exact heap_3_2 _ _ _ _) | (with_reducible exact heap_4_0 _ _ _ _ _) | (with_reducible exact heap_4_1 _ _ _ _ _) | (with_reducible exact heap_4_2 _ _ _ _ _) | (with_reducible exact heap_4_3 _ _ _ _ _) | (with_reducible exact heap_5_0 _ _ _ _ _ _) | (with_reducible exact heap_5_1 _ _ _ _ _ _) | (with_reducible exact heap_5_2 _ _ _ _ _ _) | (with_reducible exact heap_5_3 _ _ _ _ _ _) | (with_reducible exact heap_5_4 _ _ _ _ _ _) | (with_reducible exact heap_6_0 _ _ _ _ _ _ _) | (with_reducible exact heap_6_1 _ _ _ _ _ _ _) | (with_reducible exact heap_6_2 _ _ _ _ _ _ _) | (with_reducible exact heap_6_3 _ _ _ _ _ _ _) | (with_reducible exact heap_6_4 _ _ _ _ _ _ _) | (with_reducible exact heap_6_5 _ _ _ _ _ _ _) | simp only [heap_alloc_past, heap_alloc_at, World.size_alloc, Nat.add_assoc, Nat.reduceAdd, Nat.lt_add_right_iff_pos, Nat.add_lt_add_iff_left, Nat.reduceLT, Nat.zero_lt_succ, Nat.lt_add_one])
  have k1 : (((w.alloc (.cells #[.int .i64 a0, .int .i64 a1, .int .i64 a2, .int .i64 a3, .int .i64 a4] 32)).alloc (.cells #[.int .i64 b0, .int .i64 b1, .int .i64 b2, .int .i64 b3, .int .i64 b4] 32)).alloc (.cells #[.int .i64 0, .int .i64 0, .int .i64 0, .int .i64 0, .int .i64 0] 32)).heap[w.heap.size + 1]? = some (.cells #[.int .i64 b0, .int .i64 b1, .int .i64 b2, .int .i64 b3, .int .i64 b4] 32 (0, 0)) := (by first | (with_reducible exact heap_1_0 _ _) | (with_reducible exact heap_2_0 _ _ _) | (with_reducible exact heap_2_1 _ _ _) | (with_reducible exact heap_3_0 _ _ _ _) | (with_reducible exact heap_3_1 _ _ _ _) | (with_reducible exact heap_3_2 _ _ _ _) | (with_reducible exact heap_4_0 _ _ _ _ _) | (with_reducible exact heap_4_1 _ _ _ _ _) | (with_reducible exact heap_4_2 _ _ _ _ _) | (with_reducible exact heap_4_3 _ _ _ _ _) | (with_reducible exact heap_5_0 _ _ _ _ _ _) | (with_reducible exact heap_5_1 _ _ _ _ _ _) | (with_reducible exact heap_5_2 _ _ _ _ _ _) | (with_reducible exact heap_5_3 _ _ _ _ _ _) | (with_reducible exact heap_5_4 _ _ _ _ _ _) | (with_reducible exact heap_6_0 _ _ _ _ _ _ _) | (with_reducible exact heap_6_1 _ _ _ _ _ _ _) | (with_reducible exact heap_6_2 _ _ _ _ _ _ _) | (with_reducible exact heap_6_3 _ _ _ _ _ _ _) | (with_reducible exact heap_6_4 _ _ _ _ _ _ _) | (with_reducible exact heap_6_5 _ _ _ _ _ _ _) | simp only [heap_alloc_past, heap_alloc_at, World.size_alloc, Nat.add_assoc, Nat.reduceAdd, Nat.lt_add_right_iff_pos, Nat.add_lt_add_iff_left, Nat.reduceLT, Nat.zero_lt_succ, Nat.lt_add_one])
  have k2 : (((w.alloc (.cells #[.int .i64 a0, .int .i64 a1, .int .i64 a2, .int .i64 a3, .int .i64 a4] 32)).alloc (.cells #[.int .i64 b0, .int .i64 b1, .int .i64 b2, .int .i64 b3, .int .i64 b4] 32)).alloc (.cells #[.int .i64 0, .int .i64 0, .int .i64 0, .int .i64 0, .int .i64 0] 32)).heap[w.heap.size + 2]? = some (.cells #[.int .i64 0, .int .i64 0, .int .i64 0, .int .i64 0, .int .i64 0] 32 (0, 0)) := (by first | (with_reducible exact heap_1_0 _ _) | (with_reducible exact heap_2_0 _ _ _) | (with_reducible exact heap_2_1 _ _ _) | (with_reducible exact heap_3_0 _ _ _ _) | (with_reducible exact heap_3_1 _ _ _ _) | (with_reducible exact heap_3_2 _ _ _ _) | (with_reducible exact heap_4_0 _ _ _ _ _) | (with_reducible exact heap_4_1 _ _ _ _ _) | (with_reducible exact heap_4_2 _ _ _ _ _) | (with_reducible exact heap_4_3 _ _ _ _ _) | (with_reducible exact heap_5_0 _ _ _ _ _ _) | (with_reducible exact heap_5_1 _ _ _ _ _ _) | (with_reducible exact heap_5_2 _ _ _ _ _ _) | (with_reducible exact heap_5_3 _ _ _ _ _ _) | (with_reducible exact heap_5_4 _ _ _ _ _ _) | (with_reducible exact heap_6_0 _ _ _ _ _ _ _) | (with_reducible exact heap_6_1 _ _ _ _ _ _ _) | (with_reducible exact heap_6_2 _ _ _ _ _ _ _) | (with_reducible exact heap_6_3 _ _ _ _ _ _ _) | (with_reducible exact heap_6_4 _ _ _ _ _ _ _) | (with_reducible exact heap_6_5 _ _ _ _ _ _ _) | simp only [heap_alloc_past, heap_alloc_at, World.size_alloc, Nat.add_assoc, Nat.reduceAdd, Nat.lt_add_right_iff_pos, Nat.add_lt_add_iff_left, Nat.reduceLT, Nat.zero_lt_succ, Nat.lt_add_one])
  clear hA hB hC ec es em hsI hB3
  go_enter Try.func26, Try.ntmps26
  go_wp2
  generalize ((w.alloc (.cells #[.int .i64 a0, .int .i64 a1, .int .i64 a2, .int .i64 a3, .int .i64 a4] 32)).alloc (.cells #[.int .i64 b0, .int .i64 b1, .int .i64 b2, .int .i64 b3, .int .i64 b4] 32)).alloc (.cells #[.int .i64 0, .int .i64 0, .int .i64 0, .int .i64 0, .int .i64 0] 32) = W at *
  have HW := Lib.hid h3B
  have K0 := Lib.hid k0
  have K1 := Lib.hid k1
  have K2 := Lib.hid k2
  have d0 : W.cell? ⟨w.heap.size, 0, none⟩ = some (.int .i64 a0) := by rw [cell_of_row _ _ _ _ _ _ k0]; rfl
  have d1 : W.cell? ⟨w.heap.size, 1, none⟩ = some (.int .i64 a1) := by rw [cell_of_row _ _ _ _ _ _ k0]; rfl
  have d2 : W.cell? ⟨w.heap.size + 1, 0, none⟩ = some (.int .i64 b0) := by rw [cell_of_row _ _ _ _ _ _ k1]; rfl
  have d3 : W.cell? ⟨w.heap.size + 1, 1, none⟩ = some (.int .i64 b1) := by rw [cell_of_row _ _ _ _ _ _ k1]; rfl
  clear h3B k0 k1 k2
  go_quiet (first | (go_at_call 65; with_reducible exact Calls.quiet_of_same (HA.out _)) | (go_at_call 65; with_reducible exact Calls.quiet_of_same (HB.out _)))
  go_wp2
  clear d0 d1 d2 d3
  have hst : Stab (fun w' => (((Below w.heap.size w w' ∧ w'.heap[w.heap.size]? = some (.cells #[.int .i64 a0, .int .i64 a1, .int .i64 a2, .int .i64 a3, .int .i64 a4] 32 (0, 0))) ∧ w'.heap[w.heap.size + 1]? = some (.cells #[.int .i64 b0, .int .i64 b1, .int .i64 b2, .int .i64 b3, .int .i64 b4] 32 (0, 0))) ∧ w'.heap[w.heap.size + 2]? = some (.cells #[.int .i64 0, .int .i64 0, .int .i64 0, .int .i64 0, .int .i64 0] 32 (0, 0)))) :=
    stab_and (stab_and (stab_and (stab_below (Nat.le_refl _)) (stab_heap _ _)) (stab_heap _ _)) (stab_heap _ _)
  refine wp_region_E mixed [16] hst ⟨⟨⟨below_drew (below_drewN HW.out _), K0.out⟩, K1.out⟩, K2.out⟩ ?_
  refine wpAnyE_take 0 rfl (by kernel_rfl) (by kernel_rfl) (by kernel_rfl) (fun _ _ _ h => h) hst (EffB.pure rfl (fun _ => rfl)) (.inr (EffB.pure rfl (fun _ => rfl))) ?_
  simp only [act_norm]
  refine wpAnyE_take 1 rfl (by kernel_rfl) (by kernel_rfl) (by kernel_rfl) (fun _ _ _ h => h) hst (EffB.pure rfl (fun _ => rfl)) (.inr (EffB.pure rfl (fun _ => rfl))) ?_
  simp only [act_norm]
  refine wpAnyE_take 2 (v := .pointer (some ⟨w.heap.size, 2, none⟩)) rfl (by kernel_rfl) (by kernel_rfl) (by kernel_rfl) (fun _ _ _ h => h) hst (EffB.run rfl rfl (fun wd hS => ?_)) (.inr (EffB.run rfl rfl (fun wd hS => ?_))) ?_
  · (go_wp2; exact ⟨rfl, Below.refl _ _⟩)
  · (go_wp2; exact ⟨rfl, Below.refl _ _⟩)
  simp only [act_norm]
  refine wpAnyE_take 3 (v := .int .i64 a2) rfl (by kernel_rfl) (by kernel_rfl) (by kernel_rfl) (fun _ _ _ h => h) hst (EffB.run rfl rfl (fun wd hS => ?_)) (.inl (by kernel_rfl)) ?_
  · (have c2 : wd.cell? ⟨w.heap.size, 2, none⟩ = some (.int .i64 a2) := by rw [cell_of_row _ _ _ _ _ _ hS.1.1.2]; rfl); go_wp2; exact ⟨rfl, Below.refl _ _⟩
  simp only [act_norm]
  refine wpAnyE_take 4 (v := .pointer (some ⟨w.heap.size + 1, 2, none⟩)) rfl (by kernel_rfl) (by kernel_rfl) (by kernel_rfl) (fun _ _ _ h => h) hst (EffB.run rfl rfl (fun wd hS => ?_)) (.inr (EffB.run rfl rfl (fun wd hS => ?_))) ?_
  · (go_wp2; exact ⟨rfl, Below.refl _ _⟩)
  · (go_wp2; exact ⟨rfl, Below.refl _ _⟩)
  simp only [act_norm]
  refine wpAnyE_take 5 (v := .int .i64 b2) rfl (by kernel_rfl) (by kernel_rfl) (by kernel_rfl) (fun _ _ _ h => h) hst (EffB.run rfl rfl (fun wd hS => ?_)) (.inl (by kernel_rfl)) ?_
  · (have c2 : wd.cell? ⟨w.heap.size + 1, 2, none⟩ = some (.int .i64 b2) := by rw [cell_of_row _ _ _ _ _ _ hS.1.2]; rfl); go_wp2; exact ⟨rfl, Below.refl _ _⟩
  simp only [act_norm]
  refine wpAnyE_take 6 (v := .int .i64 (min a2 b2)) rfl (by kernel_rfl) (by kernel_rfl) (by kernel_rfl) (fun _ _ _ h => h) hst (EffB.run rfl rfl (fun wd hS => ?_)) (.inl (by kernel_rfl)) ?_
  · (by_cases hlt : (b2) < (a2); (· (rw [show min (a2) (b2) = b2 by omega]; go_wp2; exact ⟨rfl, Below.refl _ _⟩)); (· (rw [show min (a2) (b2) = a2 by omega]; have hge2 : ¬ (b2) < (a2) := hlt; go_wp2; exact ⟨rfl, Below.refl _ _⟩)))
  simp only [act_norm]
  refine wpAnyE_take 7 (v := .pointer (some ⟨w.heap.size, 3, none⟩)) rfl (by kernel_rfl) (by kernel_rfl) (by kernel_rfl) (fun _ _ _ h => h) hst (EffB.run rfl rfl (fun wd hS => ?_)) (.inr (EffB.run rfl rfl (fun wd hS => ?_))) ?_
  · (go_wp2; exact ⟨rfl, Below.refl _ _⟩)
  · (go_wp2; exact ⟨rfl, Below.refl _ _⟩)
  simp only [act_norm]
  refine wpAnyE_take 8 (v := .int .i64 a3) rfl (by kernel_rfl) (by kernel_rfl) (by kernel_rfl) (fun _ _ _ h => h) hst (EffB.run rfl rfl (fun wd hS => ?_)) (.inl (by kernel_rfl)) ?_
  · (have c2 : wd.cell? ⟨w.heap.size, 3, none⟩ = some (.int .i64 a3) := by rw [cell_of_row _ _ _ _ _ _ hS.1.1.2]; rfl); go_wp2; exact ⟨rfl, Below.refl _ _⟩
  simp only [act_norm]
  refine wpAnyE_take 9 (v := .pointer (some ⟨w.heap.size + 1, 3, none⟩)) rfl (by kernel_rfl) (by kernel_rfl) (by kernel_rfl) (fun _ _ _ h => h) hst (EffB.run rfl rfl (fun wd hS => ?_)) (.inr (EffB.run rfl rfl (fun wd hS => ?_))) ?_
  · (go_wp2; exact ⟨rfl, Below.refl _ _⟩)
  · (go_wp2; exact ⟨rfl, Below.refl _ _⟩)
  simp only [act_norm]
  refine wpAnyE_take 10 (v := .int .i64 b3) rfl (by kernel_rfl) (by kernel_rfl) (by kernel_rfl) (fun _ _ _ h => h) hst (EffB.run rfl rfl (fun wd hS => ?_)) (.inl (by kernel_rfl)) ?_
  · (have c2 : wd.cell? ⟨w.heap.size + 1, 3, none⟩ = some (.int .i64 b3) := by rw [cell_of_row _ _ _ _ _ _ hS.1.2]; rfl); go_wp2; exact ⟨rfl, Below.refl _ _⟩
  simp only [act_norm]
  refine wpAnyE_take 11 (v := .int .i64 (max a3 b3)) rfl (by kernel_rfl) (by kernel_rfl) (by kernel_rfl) (fun _ _ _ h => h) hst (EffB.run rfl rfl (fun wd hS => ?_)) (.inl (by kernel_rfl)) ?_
  · (by_cases hlt : (a3) < (b3); (· (rw [show max (a3) (b3) = b3 by omega]; go_wp2; exact ⟨rfl, Below.refl _ _⟩)); (· (rw [show max (a3) (b3) = a3 by omega]; have hge2 : ¬ (a3) < (b3) := hlt; go_wp2; exact ⟨rfl, Below.refl _ _⟩)))
  simp only [act_norm]
  refine wpAnyE_take 12 rfl (by kernel_rfl) (by kernel_rfl) (by kernel_rfl) (fun _ _ _ h => h) hst (EffB.pure rfl (fun _ => rfl)) (.inr (EffB.pure rfl (fun _ => rfl))) ?_
  simp only [act_norm]
  refine wpAnyE_take 13 rfl (by kernel_rfl) (by kernel_rfl) (by kernel_rfl) (fun _ _ _ h => h) hst (EffB.pure rfl (fun _ => rfl)) (.inr (EffB.pure rfl (fun _ => rfl))) ?_
  simp only [act_norm]
  refine wpAnyE_take 14 (v := .int .i64 m) rfl (by kernel_rfl) (by kernel_rfl) (by kernel_rfl) (fun _ _ _ h => h) hst (EffB.run rfl rfl (fun wd hS => ?_)) (.inl (by kernel_rfl)) ?_
  · (go_wp2_with fail; (with_reducible refine (HC.out wd).mono ?_); rintro e w'' ⟨rfl, rfl⟩; exact ⟨rfl, Below.refl _ _⟩)
  simp only [act_norm]
  refine wpAnyE_take 15 (v := .agg #[.int .i64 c, .int .i64 s, .int .i64 (min a2 b2), .int .i64 (max a3 b3), .int .i64 m]) rfl (by kernel_rfl) (by kernel_rfl) (by kernel_rfl) (fun _ _ _ h => h) hst (EffB.run rfl rfl (fun wd hS => ?_)) (.inr (EffB.run rfl rfl (fun wd hS => ?_))) ?_
  · (go_wp2; exact ⟨rfl, Below.refl _ _⟩)
  · (go_wp2; exact ⟨rfl, Below.refl _ _⟩)
  simp only [act_norm]
  refine wpAnyE_one 16 rfl (by kernel_rfl) rfl (fun wd hS => ?_)
  refine wp_store_row 32 _ _ rfl (w.heap.size + 2) #[.int .i64 c, .int .i64 s, .int .i64 (min a2 b2), .int .i64 (max a3 b3), .int .i64 m] rfl rfl 32 #[.int .i64 0, .int .i64 0, .int .i64 0, .int .i64 0, .int .i64 0] hS.2 statInfo rfl (by simp [Value.oneCell']) ?_
  refine ⟨fun w' => Below w.heap.size w w' ∧ w'.heap[w.heap.size + 2]? = some (.cells #[.int .i64 c, .int .i64 s, .int .i64 (min a2 b2), .int .i64 (max a3 b3), .int .i64 m] 32 (0, 0)), ⟨below_setRow hS.1.1.1 (by omega) _, setRow_heap _ _ _ _ _ _ hS.2⟩, stab_and (stab_below (Nat.le_refl _)) (stab_heap _ _), .inl (by simp), ?_⟩
  simp only [act_norm]
  clear hS
  refine wpAnyE_done (by kernel_rfl) (fun wd hS => ?_) _
  have HS := Lib.hid hS
  clear hS
  go_wp2
  exact bodyPost_ret (results_cell_row rfl _ _ (w.heap.size + 2) 32 #[.int .i64 c, .int .i64 s, .int .i64 (min a2 b2), .int .i64 (max a3 b3), .int .i64 m] (0, 0) _ rfl HS.out.2 Try.underlying32 rfl statInfo) rfl ⟨rfl, HS.out.1⟩

theorem window_merge (x y : Stat) (h1 : I64 x.count) (h2 : I64 y.count) (h3 : I64 x.sum) (h4 : I64 y.sum) (z : Stat) (ez : z = Stat.merge x y) (w : World) :
    Calls Try.prog 26 #[.agg #[.int .i64 x.count, .int .i64 x.sum, .int .i64 x.least, .int .i64 x.most, .int .i64 x.mean], .agg #[.int .i64 y.count, .int .i64 y.sum, .int .i64 y.least, .int .i64 y.most, .int .i64 y.mean]] w fun e w' => e = .returned (.agg #[.int .i64 z.count, .int .i64 z.sum, .int .i64 z.least, .int .i64 z.most, .int .i64 z.mean]) ∧ Below w.heap.size w w' := by
  by_cases c1 : x.count < 1
  · exact window_merge_left x y h1 h2 h3 h4 c1 z ez w
  by_cases c2 : y.count < 1
  · exact window_merge_right x y h1 h2 h3 h4 c1 c2 z ez w
  exact window_merge_both x y h1 h2 h3 h4 c1 c2 z ez w
end Go.Proofs.Ytdchooggindihaa
