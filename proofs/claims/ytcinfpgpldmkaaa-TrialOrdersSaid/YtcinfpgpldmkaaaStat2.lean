/- What a window tells (layer 9): the contracts. -/
import Derived.Test.YtcinfpgpldmkaaaStat
namespace Go.Proofs.Ytcinfpgpldmkaaa
open Go.ChangeShapes Go.WideShapes Go.ChangeAt Go.RowKit

theorem Samp.vals_len (l : List Samp) : (Samp.vals l).length = l.length := by simp [Samp.vals]
theorem Samp.vals_nn (l : List Samp) : ∀ n ∈ Samp.vals l, 0 ≤ n := by
  intro n hn
  obtain ⟨a, _, rfl⟩ := List.mem_map.1 hn
  omega
theorem Samp.vals_I64 (l : List Samp) (h : ∀ a ∈ l, a.In) : ∀ n ∈ Samp.vals l, I64 n := by
  intro n hn
  obtain ⟨a, ha, rfl⟩ := List.mem_map.1 hn
  have := (h a ha).2
  unfold I64 at *
  omega
theorem Samp.cut_In (lo hi : Int) (l : List Samp) (h : ∀ a ∈ l, a.In) : ∀ a ∈ Samp.cut lo hi l, a.In := fun a ha => h a (List.mem_filter.1 ha).1
theorem Samp.cut_len (lo hi : Int) (l : List Samp) : (Samp.cut lo hi l).length ≤ l.length := List.length_filter_le _ _

theorem statInfo : (Try.prog.info? 89).map (·.size) = some 5 := by kernel_rfl

set_option maxHeartbeats 1000000 in
set_option maxRecDepth 100000 in
theorem window_of (p : Option Addr) (cap : Nat) (l : List Samp) (hin : ∀ a ∈ l, a.In) (hb : l.length ≤ 100000) (s : Stat) (es : s = Stat.of (Samp.vals l)) (w : World) (hs : Samps w p l) :
    Calls Try.prog 95 #[.slice p l.length cap] w fun e w' => e = .returned (.agg #[.int .i64 s.count, .int .i64 s.sum, .int .i64 s.least, .int .i64 s.most, .int .i64 s.mean]) ∧ Below w.heap.size w w' := by
  by_cases h0 : l.length = 0
  · rw [Stat.of_nil (by rw [Samp.vals_len]; exact h0)] at es
    subst es
    rw [h0]
    clear h0 hs hb hin
    go_enter Try.func95, Try.ntmps95
    go_wp2
    exact bodyPost_ret (v := .agg #[.int .i64 0, .int .i64 0, .int .i64 0, .int .i64 0, .int .i64 0]) (by simp [results, Try.results95, go_sem]) rfl ⟨rfl, below1 _ _⟩
  · have hvl := Samp.vals_len l
    have hv64 := Samp.vals_I64 l hin
    rw [Stat.of_some (by rw [hvl]; exact h0)] at es
    have h1 := fun W : World => fun h : Samps W p l => window_values p cap l hb W h
    obtain ⟨v, ev⟩ : ∃ v, v = Samp.vals l := ⟨_, rfl⟩
    rw [← ev] at hvl hv64 es
    simp only [← ev] at h1
    have h2 := fun (q : Option Addr) (c : Nat) (W : World) (h : Ints .i64 W q v) => sat_sum q c v W h hv64 (by omega)
    have h3 := fun (q : Option Addr) (c : Nat) (W : World) (h : Ints .i64 W q v) => slices_min q c v (by omega) (by omega) W h
    have h4 := fun (q : Option Addr) (c : Nat) (W : World) (h : Ints .i64 W q v) => slices_max q c v (by omega) (by omega) W h
    have h5 := fun (q : Option Addr) (c : Nat) (W : World) (h : Ints .i64 W q v) => wide_mean q c v W h hv64 (by omega)
    simp only [hvl] at h2 h3 h4 h5 es
    obtain ⟨s1, e1⟩ : ∃ x, x = Sat.sum v := ⟨_, rfl⟩
    obtain ⟨s2, e2⟩ : ∃ x, x = lmin v := ⟨_, rfl⟩
    obtain ⟨s3, e3⟩ : ∃ x, x = lmax v := ⟨_, rfl⟩
    obtain ⟨s4, e4⟩ : ∃ x, x = Wide.up (Bits.total v) l.length := ⟨_, rfl⟩
    rw [← e1, ← e2, ← e3, ← e4] at es
    simp only [← e1] at h2
    simp only [← e2] at h3
    simp only [← e3] at h4
    simp only [← e4] at h5
    obtain ⟨n, hn⟩ : ∃ n, n = l.length := ⟨_, rfl⟩
    rw [← hn] at h0 hb es hvl
    simp only [← hn] at h1 h2 h3 h4 h5 ⊢
    subst es
    have H1 := Lib.hid h1
    have H2 := Lib.hid h2
    have H3 := Lib.hid h3
    have H4 := Lib.hid h4
    have H5 := Lib.hid h5
    have HVL := Lib.hid hvl
    have hs1 : Samps (w.alloc (.cells #[.int .i64 0, .int .i64 0, .int .i64 0, .int .i64 0, .int .i64 0] 89)) p l := hs.below (below1 _ _)
    have HS1 := Lib.hid hs1
    have d0 : ((n : Int) == 0) = false := beq_eq_false_iff_ne.2 (by omega)
    clear h1 h2 h3 h4 h5 e1 e2 e3 e4 hn ev hv64 hvl hs hs1
    go_enter Try.func95, Try.ntmps95
    go_wp2_with fail
    (with_reducible refine (H1.out _ HS1.out).mono ?_)
    rintro e w1 ⟨u, rfl, hO, hB⟩
    rw [← HVL.out] at hO
    obtain ⟨q, c, rfl, _, hq⟩ := ints_of_owns hO
    rw [HVL.out]
    have k1 : w1.heap[w.heap.size]? = some (.cells #[.int .i64 0, .int .i64 0, .int .i64 0, .int .i64 0, .int .i64 0] 89 (0, 0)) := by rw [hB.block _ (by simp)]; exact (by first | (with_reducible exact heap_1_0 _ _) | (with_reducible exact heap_2_0 _ _ _) | (with_reducible exact heap_2_1 _ _ _) | (with_reducible exact heap_3_0 _ _ _ _) | (with_reducible exact heap_3_1 _ _ _ _) | (with_reducible exact heap_3_2 _ _ _ _) | (with_reducible exact heap_4_0 _ _ _ _ _) | (with_reducible exact heap_4_1 _ _ _ _ _) | (with_reducible exact heap_4_2 _ _ _ _ _) | (with_reducible exact heap_4_3 _ _ _ _ _) | (with_reducible exact heap_5_0 _ _ _ _ _ _) | (with_reducible exact heap_5_1 _ _ _ _ _ _) | (with_reducible exact heap_5_2 _ _ _ _ _ _) | (with_reducible exact heap_5_3 _ _ _ _ _ _) | (with_reducible exact heap_5_4 _ _ _ _ _ _) | (with_reducible exact heap_6_0 _ _ _ _ _ _ _) | (with_reducible exact heap_6_1 _ _ _ _ _ _ _) | (with_reducible exact heap_6_2 _ _ _ _ _ _ _) | (with_reducible exact heap_6_3 _ _ _ _ _ _ _) | (with_reducible exact heap_6_4 _ _ _ _ _ _ _) | (with_reducible exact heap_6_5 _ _ _ _ _ _ _) | simp only [heap_alloc_past, heap_alloc_at, World.size_alloc, Nat.add_assoc, Nat.reduceAdd, Nat.lt_add_right_iff_pos, Nat.add_lt_add_iff_left, Nat.reduceLT, Nat.zero_lt_succ, Nat.lt_add_one])
    have HB := Lib.hid ((below1 w (.cells #[.int .i64 0, .int .i64 0, .int .i64 0, .int .i64 0, .int .i64 0] 89)).trans (hB.mono (by simp)))
    have HQ := Lib.hid hq
    have K1 := Lib.hid k1
    clear hO hB hq k1 HS1
    go_wp2_with (first | ((with_reducible refine (H2.out _ _ _ HQ.out).mono ?_); rintro e w2 ⟨rfl, rfl⟩) | ((with_reducible refine (H3.out _ _ _ HQ.out).mono ?_); rintro e w2 ⟨rfl, rfl⟩) | ((with_reducible refine (H4.out _ _ _ HQ.out).mono ?_); rintro e w2 ⟨rfl, rfl⟩))
    (with_reducible refine (H5.out _ _ _ HQ.out).mono ?_)
    rintro e w2 ⟨rfl, hb2⟩
    have k1 := (hb2.block _ (lt_of_heap K1.out)).trans K1.out
    have HB2 := Lib.hid (HB.out.trans (hb2.mono HB.out.size))
    have K2 := Lib.hid k1
    clear hb2 k1 HB K1 HQ
    go_wp2_with ((with_reducible refine wpList_store_rowAs rfl 89 _ _ rfl (w.heap.size) #[.int .i64 n, .int .i64 s1, .int .i64 s2, .int .i64 s3, .int .i64 s4] ?_ ?_ 89 #[.int .i64 0, .int .i64 0, .int .i64 0, .int .i64 0, .int .i64 0] 5 ?_ (by kernel_rfl) rfl rfl (by simp [Value.oneCell']) ?_); exact rfl; exact rfl; exact K2.out)
    exact bodyPost_ret (results_cell_row rfl _ _ w.heap.size 89 #[.int .i64 n, .int .i64 s1, .int .i64 s2, .int .i64 s3, .int .i64 s4] (0, 0) _ rfl (setRow_heap _ _ _ _ _ _ K2.out) Try.underlying89 rfl statInfo) rfl ⟨rfl, below_setRow HB2.out (Nat.le_refl _) _⟩
end Go.Proofs.Ytcinfpgpldmkaaa
