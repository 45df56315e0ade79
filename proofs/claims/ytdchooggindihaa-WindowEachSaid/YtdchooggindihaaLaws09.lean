/- Layer 9: the laws, walked. -/
import Derived.Test.YtdchooggindihaaStat5
namespace Go.Proofs.Ytdchooggindihaa
open Go.ChangeShapes Go.WideShapes Go.ChangeAt Go.RowKit

set_option maxHeartbeats 1000000 in
set_option maxRecDepth 100000 in
theorem awake09 (w : World) : Calls Try.prog 14 #[] w fun e w' => e = .returned (.bool true) ∧ Below w.heap.size w w' := by
  have h1 : ∀ W : World, Calls Try.prog 24 #[.slice (some ⟨W.heap.size, 0, none⟩) 2 2] (W.alloc (.cells #[.int .i64 1, .int .i64 3, .int .i64 2, .int .i64 4] 74)) fun e w' => e = .returned (.agg #[.int .i64 2, .int .i64 7, .int .i64 3, .int .i64 4, .int .i64 4]) ∧ Below W.heap.size W w' := by
    intro W
    have := window_of (some ⟨W.heap.size, 0, none⟩) 2 [⟨1, 3⟩, ⟨2, 4⟩] (by intro a ha; simp at ha; unfold Samp.In I64; rcases ha with rfl | rfl <;> simp) (by simp) ⟨2, 7, 3, 4, 4⟩ (by decide) _ (samps_alloc W [⟨1, 3⟩, ⟨2, 4⟩] 74 _ rfl)
    exact this.mono fun e w' ⟨a, b⟩ => ⟨a, (below1 W _).trans (b.mono (by simp))⟩
  have h2 := window_from 10 3 (by unfold I64; omega) (by unfold I64; omega)
  rw [show Win.from 10 3 = 8 by decide] at h2
  have h3 : ∀ W : World, Calls Try.prog 25 #[.slice none 0 0, .int .i64 5, .int .i64 5] W fun e w' => e = .returned (.agg #[.int .i64 0, .int .i64 0, .int .i64 0, .int .i64 0, .int .i64 0]) ∧ Below W.heap.size W w' :=
    fun W => window_at none 0 [] (by simp) (by simp) 5 5 (by unfold I64; omega) (by unfold I64; omega) ⟨0, 0, 0, 0, 0⟩ rfl W (.inl rfl)
  have H1 := Lib.hid h1
  have H2 := Lib.hid h2
  have H3 := Lib.hid h3
  clear h1 h2 h3
  go_enter Try.func14, Try.ntmps14
  go_wp2_with fail
  (with_reducible refine (H1.out _).mono ?_)
  rintro e w1 ⟨rfl, hb1⟩
  have HB := Lib.hid (hb1.alloc hb1.size (.cells #[.int .i64 2, .int .i64 7, .int .i64 3, .int .i64 4, .int .i64 4] 32))
  clear hb1
  go_wp2_with (first | ((with_reducible refine wpList_store_rowAs rfl 32 _ _ rfl (w1.heap.size) #[.int .i64 2, .int .i64 7, .int .i64 3, .int .i64 4, .int .i64 4] ?_ ?_ 32 #[.int .i64 0, .int .i64 0, .int .i64 0, .int .i64 0, .int .i64 0] 5 ?_ (by kernel_rfl) rfl rfl (by simp [Value.oneCell']) ?_); exact rfl; exact rfl; exact (heap_alloc_at _ _ _ rfl); (first | rw [row_1_0] | rw [row_2_0] | rw [row_2_1] | rw [row_3_0] | rw [row_3_1] | rw [row_3_2] | rw [row_4_0] | rw [row_4_1] | rw [row_4_2] | rw [row_4_3] | rw [row_5_0] | rw [row_5_1] | rw [row_5_2] | rw [row_5_3] | rw [row_5_4] | rw [row_6_0] | rw [row_6_1] | rw [row_6_2] | rw [row_6_3] | rw [row_6_4] | rw [row_6_5] | simp only [setRow_alloc_past, setRow_alloc_at, World.size_alloc, Nat.add_assoc, Nat.reduceAdd, Nat.lt_add_right_iff_pos, Nat.add_lt_add_iff_left, Nat.reduceLT, Nat.zero_lt_succ, Nat.lt_add_one])) | ((with_reducible refine (H2.out _).mono ?_); rintro e w2 ⟨rfl, rfl⟩))
  (with_reducible refine (H3.out _).mono ?_)
  rintro e w3 ⟨rfl, hb3⟩
  have HB3 := Lib.hid (HB.out.trans (hb3.mono HB.out.size))
  clear hb3
  go_wp2
  go_ret
  exact ⟨rfl, HB3.out⟩

set_option maxHeartbeats 2000000 in
set_option maxRecDepth 100000 in
theorem windowTells_walk (p : Option Addr) (cap : Nat) (l : List Samp) (hin : ∀ a ∈ l, a.In) (fr to width : Int) (ht : I64 to) (hwd : I64 width) (hb : l.length ≤ 9223372036854775807) (w : World) (hs : Samps w p l) :
    Calls Try.prog 3 #[.slice p l.length cap, .int .i64 fr, .int .i64 to, .int .i64 width] w fun e w' => e = .returned (.bool true) ∧ Below w.heap.size w w' := by
  by_cases h60 : 60 < l.length
  · obtain ⟨n, hn⟩ : ∃ n, n = l.length := ⟨_, rfl⟩
    rw [← hn] at hb h60 ⊢
    clear hn hs hin
    go_enter Try.func3, Try.ntmps3
    go_wp2_with fail
    (with_reducible refine (awake09 _).mono ?_)
    rintro e w1 ⟨rfl, hb1⟩
    have HB := Lib.hid hb1
    clear hb1
    go_wp2
    go_ret
    exact ⟨rfl, HB.out⟩
  have f1 := ref09_from to width ht hwd
  have f2 := window_from to width ht hwd
  have s2 := fun W : World => fun h : Samps W p l => window_at p cap l hin (by omega) to width ht hwd _ rfl W h
  obtain ⟨st, est⟩ : ∃ f, f = Win.from to width := ⟨_, rfl⟩
  rw [← est] at f1 f2
  simp only [← est] at s2
  have c1 := fun W : World => fun h : Samps W p l => window_cut p cap l fr to (by omega) W h
  have c2 := fun W : World => fun h : Samps W p l => ref09_cut p cap l fr to (by omega) W h
  have c3 := fun W : World => fun h : Samps W p l => ref09_cut p cap l st to (by omega) W h
  have v1 := fun W : World => fun h : Samps W p l => window_values p cap l (by omega) W h
  have v2 := fun W : World => fun h : Samps W p l => ref09_values p cap l (by omega) W h
  have s1 := fun W : World => fun h : Samps W p l => window_of p cap l hin (by omega) _ rfl W h
  have i1 := fun W : World => fun h : Samps W p l => ref09_is p cap l hin (by omega) _ rfl W h
  have lc1 := Samp.cut_len fr to l
  have lc2 := Samp.cut_len st to l
  have hcin := Samp.cut_In st to l hin
  have lv := Samp.vals_len l
  obtain ⟨a, ea⟩ : ∃ a, a = Samp.cut fr to l := ⟨_, rfl⟩
  obtain ⟨b, eb⟩ : ∃ a, a = Samp.cut st to l := ⟨_, rfl⟩
  obtain ⟨v, ev⟩ : ∃ a, a = Samp.vals l := ⟨_, rfl⟩
  simp only [← ea] at c1 c2
  simp only [← eb] at c3 s2
  simp only [← ev] at v1 v2 s1 i1
  rw [← ea] at lc1
  rw [← eb] at lc2 hcin
  rw [← ev] at lv
  have i2 := fun (q : Option Addr) (c : Nat) (W : World) (h : Samps W q b) => ref09_is q c b hcin (by omega) _ rfl W h
  have e1 := fun (q1 q2 : Option Addr) (c1 c2 : Nat) (W : World) (h1 : Samps W q1 a) (h2 : Samps W q2 a) => ref08_same q1 q2 c1 c2 a a W h1 h2 (by omega) (by omega)
  rw [show decide (a = a) = true from decide_eq_true rfl] at e1
  have e2 := fun (q1 q2 : Option Addr) (c1 c2 : Nat) (W : World) (h1 : Ints .i64 W q1 v) (h2 : Ints .i64 W q2 v) => ref_same q1 q2 c1 c2 v v W h1 h2 (by omega) (by omega)
  rw [show decide (v = v) = true from decide_eq_true rfl, lv] at e2
  obtain ⟨x, ex⟩ : ∃ x, x = Stat.of v := ⟨_, rfl⟩
  obtain ⟨y, ey⟩ : ∃ x, x = Stat.of (Samp.vals b) := ⟨_, rfl⟩
  simp only [← ex] at s1 i1
  simp only [← ey] at s2 i2
  obtain ⟨n, hn⟩ : ∃ n, n = l.length := ⟨_, rfl⟩
  rw [← hn] at hb h60 lc1 lc2 lv
  simp only [← hn] at c1 c2 c3 v1 v2 s1 s2 i1 e2 ⊢
  have F1 := Lib.hid f1
  have F2 := Lib.hid f2
  have C1 := Lib.hid c1
  have C2 := Lib.hid c2
  have C3 := Lib.hid c3
  have V1 := Lib.hid v1
  have V2 := Lib.hid v2
  have S1 := Lib.hid s1
  have S2 := Lib.hid s2
  have I1 := Lib.hid i1
  have I2 := Lib.hid i2
  have E1 := Lib.hid e1
  have E2 := Lib.hid e2
  have HS := Lib.hid hs
  have LV := Lib.hid lv
  clear f1 f2 c1 c2 c3 v1 v2 s1 s2 i1 i2 e1 e2 est ea eb ev ex ey hn hs hin hcin lv ht hwd
  go_enter Try.func3, Try.ntmps3
  go_wp2_with fail
  (with_reducible refine (awake09 _).mono ?_)
  rintro e w1 ⟨rfl, hb1⟩
  have HB := Lib.hid hb1
  clear hb1
  go_wp2_with ((with_reducible refine (F1.out _).mono ?_); rintro e w2 ⟨rfl, rfl⟩)
  (with_reducible refine (C1.out _ (HS.out.below HB.out)).mono ?_)
  rintro e w2 ⟨u, rfl, hO, hb2⟩
  obtain ⟨q1, k1, rfl, _, hq1⟩ := samps_of_owns hO
  have HB2 := Lib.hid (HB.out.trans (hb2.mono HB.out.size))
  have HQ1 := Lib.hid hq1
  clear hO hb2 hq1 HB
  go_wp2_with fail
  (with_reducible refine (C2.out _ (HS.out.below HB2.out)).mono ?_)
  rintro e w3 ⟨u, rfl, hO, hb3⟩
  obtain ⟨q2, k2, rfl, _, hq2⟩ := samps_of_owns hO
  have hq1 := HQ1.out.below hb3
  have HB3 := Lib.hid (HB2.out.trans (hb3.mono HB2.out.size))
  have HQ2 := Lib.hid hq2
  have HQ3 := Lib.hid hq1
  clear hO hb3 hq2 hq1 HQ1 HB2
  go_wp2_with fail
  (with_reducible refine (E1.out _ _ _ _ _ HQ3.out HQ2.out).mono ?_)
  rintro e w4 ⟨rfl, hb4⟩
  have HB4 := Lib.hid (HB3.out.trans (hb4.mono HB3.out.size))
  clear hb4 HQ2 HQ3 HB3
  go_wp2_with fail
  (with_reducible refine (V1.out _ (HS.out.below HB4.out)).mono ?_)
  rintro e w5 ⟨u, rfl, hO, hb5⟩
  rw [← LV.out] at hO
  obtain ⟨q1, k1, rfl, _, hq1⟩ := ints_of_owns hO
  rw [LV.out]
  have HB5 := Lib.hid (HB4.out.trans (hb5.mono HB4.out.size))
  have HQ1 := Lib.hid hq1
  clear hO hb5 hq1 HB4
  go_wp2_with fail
  (with_reducible refine (V2.out _ (HS.out.below HB5.out)).mono ?_)
  rintro e w6 ⟨u, rfl, hO, hb6⟩
  rw [← LV.out] at hO
  obtain ⟨q2, k2, rfl, _, hq2⟩ := ints_of_owns hO
  rw [LV.out]
  have hq1 : Ints .i64 w6 q1 v := Sl.below HQ1.out hb6
  have HB6 := Lib.hid (HB5.out.trans (hb6.mono HB5.out.size))
  have HQ2 := Lib.hid hq2
  have HQ3 := Lib.hid hq1
  clear hO hb6 hq2 hq1 HQ1 HB5
  go_wp2_with fail
  (with_reducible refine (E2.out _ _ _ _ _ HQ3.out HQ2.out).mono ?_)
  rintro e w7 ⟨rfl, hb7⟩
  have HB7 := Lib.hid (HB6.out.trans (hb7.mono HB6.out.size))
  clear hb7 HQ2 HQ3 HB6
  go_wp2_with ((with_reducible refine (F2.out _).mono ?_); rintro e w8 ⟨rfl, rfl⟩)
  (with_reducible refine (S1.out _ (HS.out.below HB7.out)).mono ?_)
  rintro e w8 ⟨rfl, hb8⟩
  have HB8 := Lib.hid (HB7.out.trans (hb8.mono HB7.out.size))
  clear hb8 HB7
  go_wp2_with fail
  (with_reducible refine (I1.out _ (HS.out.below HB8.out)).mono ?_)
  rintro e w9 ⟨rfl, hb9⟩
  have HB9 := Lib.hid (HB8.out.trans (hb9.mono HB8.out.size))
  clear hb9 HB8
  go_wp2_with fail
  (with_reducible refine (C3.out _ (HS.out.below HB9.out)).mono ?_)
  rintro e wa ⟨u, rfl, hO, hba⟩
  obtain ⟨q1, k1, rfl, _, hq1⟩ := samps_of_owns hO
  have HBa := Lib.hid (HB9.out.trans (hba.mono HB9.out.size))
  have HQ1 := Lib.hid hq1
  clear hO hba hq1 HB9
  go_wp2_with fail
  (with_reducible refine (S2.out _ (HS.out.below HBa.out)).mono ?_)
  rintro e wb ⟨rfl, hbb⟩
  have hq1 := HQ1.out.below hbb
  have HBb := Lib.hid (HBa.out.trans (hbb.mono HBa.out.size))
  have HQ2 := Lib.hid hq1
  clear hbb HBa hq1 HQ1
  go_wp2_with fail
  (with_reducible refine (I2.out _ _ _ HQ2.out).mono ?_)
  rintro e wc ⟨rfl, hbc⟩
  have HBc := Lib.hid (HBb.out.trans (hbc.mono HBb.out.size))
  clear hbc HBb
  go_wp2
  go_ret
  exact ⟨rfl, HBc.out⟩
end Go.Proofs.Ytdchooggindihaa
