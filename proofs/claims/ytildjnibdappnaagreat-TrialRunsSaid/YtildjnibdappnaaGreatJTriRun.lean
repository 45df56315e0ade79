/- Layer 44: the law, walked: what comes of samples, judged. -/
import Derived.Test.YtildjnibdappnaaGreatJTriR
namespace Go.Proofs.YtildjnibdappnaaGreat
open Go.ChangeShapes Go.WideShapes Go.ChangeAt Go.RowKit

set_option maxHeartbeats 4000000 in
set_option maxRecDepth 100000 in
theorem trialRuns_pol (p : Pol) (hok : p.ok = false) (q : Option Addr) (cap : Nat) (n : Nat) (h20 : n ≤ 20) (sa ro : Int) (w : World) :
    Calls Tryz.prog 3 #[.agg #[.int .i64 p.mn, .int .i64 p.mx, .int .i64 p.tg, .int .i64 p.tl, .int .i64 p.wi, .int .i64 p.ho], .slice q n cap, .int .i64 sa, .int .i64 ro] w fun e w' => e = .returned (.bool true) ∧ Below w.heap.size w w' := by
  have HR := Lib.hid (fun W => trial_run_pol p hok q n cap sa ro W)
  have HK := Lib.hid (fun W => ref_polRight p W)
  have HM := Lib.hid (fun W => ref44_same none none 0 0 0 [] rfl (by omega) 0 0 0 0 0 0 W (.inl rfl) (.inl rfl))
  rw [hok] at HK
  have dn : decide ((20 : Int) < n) = false := decide_eq_false (by omega)
  clear hok h20
  by_cases h0 : sa < 1
  · have d0 : decide (sa < 1) = true := decide_eq_true h0
    go_enter Tryz.func3, Tryz.ntmps3
    go_wp2_with fail
    (with_reducible refine (awake44 _).mono ?_)
    rintro e w1 ⟨rfl, hb1⟩
    have M1 := Lib.hid (((Mem.start w).alloc (.cells #[.int .i64 p.mn, .int .i64 p.mx, .int .i64 p.tg, .int .i64 p.tl, .int .i64 p.wi, .int .i64 p.ho] 23)).call hb1)
    have K0 := Lib.hid (M1.out.heap 0 rfl)
    clear hb1
    go_wp2_with ((with_reducible refine wpList_load_rowAs rfl 23 _ rfl (w.heap.size) ?_ 23 #[.int .i64 p.mn, .int .i64 p.mx, .int .i64 p.tg, .int .i64 p.tl, .int .i64 p.wi, .int .i64 p.ho] (0, 0) _ 6 ?_ Tryz.underlying23 rfl (by kernel_rfl) ?_ ?_); exact rfl; exact K0.out; exact rfl)
    (with_reducible refine (HR.out _).mono ?_)
    rintro e w2 ⟨rfl, hb2⟩
    have M2 := Lib.hid ((M1.out.call hb2).alloc (.cells #[.slice none 0 0, .int .i64 0, .int .i64 0, .int .i64 0, .int .i64 0, .int .i64 0, .int .i64 0] 28))
    have K2 := Lib.hid (M2.out.heap 0 rfl)
    clear hb2 M1 K0
    go_wp2_with (first | ((with_reducible refine wpList_store_rowAs rfl 28 _ _ rfl (w2.heap.size) #[.slice none 0 0, .int .i64 0, .int .i64 0, .int .i64 0, .int .i64 0, .int .i64 0, .int .i64 0] ?_ ?_ 28 #[.slice none 0 0, .int .i64 0, .int .i64 0, .int .i64 0, .int .i64 0, .int .i64 0, .int .i64 0] 7 ?_ (by kernel_rfl) rfl rfl (by simp [Value.oneCell']) ?_); exact rfl; exact rfl; exact (heap_alloc_at _ _ _ rfl); (first | rw [row_1_0] | rw [row_2_0] | rw [row_2_1] | rw [row_3_0] | rw [row_3_1] | rw [row_3_2] | rw [row_4_0] | rw [row_4_1] | rw [row_4_2] | rw [row_4_3] | rw [row_5_0] | rw [row_5_1] | rw [row_5_2] | rw [row_5_3] | rw [row_5_4] | rw [row_6_0] | rw [row_6_1] | rw [row_6_2] | rw [row_6_3] | rw [row_6_4] | rw [row_6_5] | simp only [setRow_alloc_past, setRow_alloc_at, World.size_alloc, Nat.add_assoc, Nat.reduceAdd, Nat.lt_add_right_iff_pos, Nat.add_lt_add_iff_left, Nat.reduceLT, Nat.zero_lt_succ, Nat.lt_add_one])) | ((with_reducible refine wpList_load_rowAs rfl 23 _ rfl (w.heap.size) ?_ 23 #[.int .i64 p.mn, .int .i64 p.mx, .int .i64 p.tg, .int .i64 p.tl, .int .i64 p.wi, .int .i64 p.ho] (0, 0) _ 6 ?_ Tryz.underlying23 rfl (by kernel_rfl) ?_ ?_); exact rfl; exact K2.out; exact rfl))
    (with_reducible refine (HK.out _).mono ?_)
    rintro e w3 ⟨rfl, hb3⟩
    have M3 := Lib.hid (M2.out.call hb3)
    have K3 := Lib.hid (M3.out.heap 1 rfl)
    clear hb3 M2 K2
    go_wp2_with ((with_reducible refine wpList_load_rowG ?_ 28 _ rfl (w2.heap.size) ?_ 28 #[.slice none 0 0, .int .i64 0, .int .i64 0, .int .i64 0, .int .i64 0, .int .i64 0, .int .i64 0] (0, 0) _ 7 ?_ Tryz.underlying28 rfl (by kernel_rfl) ?_ ?_); kernel_rfl; exact rfl; exact K3.out; exact rfl)
    (with_reducible refine (HM.out _).mono ?_)
    rintro e w4 ⟨rfl, hb4⟩
    have M4 := Lib.hid (M3.out.call hb4)
    clear hb4
    go_wp2
    go_ret
    exact ⟨rfl, M4.out.below⟩
  by_cases h1 : 256 < sa
  · have d0 : decide (sa < 1) = false := decide_eq_false h0
    have d1 : decide (256 < sa) = true := decide_eq_true h1
    go_enter Tryz.func3, Tryz.ntmps3
    go_wp2_with fail
    (with_reducible refine (awake44 _).mono ?_)
    rintro e w1 ⟨rfl, hb1⟩
    have M1 := Lib.hid (((Mem.start w).alloc (.cells #[.int .i64 p.mn, .int .i64 p.mx, .int .i64 p.tg, .int .i64 p.tl, .int .i64 p.wi, .int .i64 p.ho] 23)).call hb1)
    have K0 := Lib.hid (M1.out.heap 0 rfl)
    clear hb1
    go_wp2_with ((with_reducible refine wpList_load_rowAs rfl 23 _ rfl (w.heap.size) ?_ 23 #[.int .i64 p.mn, .int .i64 p.mx, .int .i64 p.tg, .int .i64 p.tl, .int .i64 p.wi, .int .i64 p.ho] (0, 0) _ 6 ?_ Tryz.underlying23 rfl (by kernel_rfl) ?_ ?_); exact rfl; exact K0.out; exact rfl)
    (with_reducible refine (HR.out _).mono ?_)
    rintro e w2 ⟨rfl, hb2⟩
    have M2 := Lib.hid ((M1.out.call hb2).alloc (.cells #[.slice none 0 0, .int .i64 0, .int .i64 0, .int .i64 0, .int .i64 0, .int .i64 0, .int .i64 0] 28))
    have K2 := Lib.hid (M2.out.heap 0 rfl)
    clear hb2 M1 K0
    go_wp2_with (first | ((with_reducible refine wpList_store_rowAs rfl 28 _ _ rfl (w2.heap.size) #[.slice none 0 0, .int .i64 0, .int .i64 0, .int .i64 0, .int .i64 0, .int .i64 0, .int .i64 0] ?_ ?_ 28 #[.slice none 0 0, .int .i64 0, .int .i64 0, .int .i64 0, .int .i64 0, .int .i64 0, .int .i64 0] 7 ?_ (by kernel_rfl) rfl rfl (by simp [Value.oneCell']) ?_); exact rfl; exact rfl; exact (heap_alloc_at _ _ _ rfl); (first | rw [row_1_0] | rw [row_2_0] | rw [row_2_1] | rw [row_3_0] | rw [row_3_1] | rw [row_3_2] | rw [row_4_0] | rw [row_4_1] | rw [row_4_2] | rw [row_4_3] | rw [row_5_0] | rw [row_5_1] | rw [row_5_2] | rw [row_5_3] | rw [row_5_4] | rw [row_6_0] | rw [row_6_1] | rw [row_6_2] | rw [row_6_3] | rw [row_6_4] | rw [row_6_5] | simp only [setRow_alloc_past, setRow_alloc_at, World.size_alloc, Nat.add_assoc, Nat.reduceAdd, Nat.lt_add_right_iff_pos, Nat.add_lt_add_iff_left, Nat.reduceLT, Nat.zero_lt_succ, Nat.lt_add_one])) | ((with_reducible refine wpList_load_rowAs rfl 23 _ rfl (w.heap.size) ?_ 23 #[.int .i64 p.mn, .int .i64 p.mx, .int .i64 p.tg, .int .i64 p.tl, .int .i64 p.wi, .int .i64 p.ho] (0, 0) _ 6 ?_ Tryz.underlying23 rfl (by kernel_rfl) ?_ ?_); exact rfl; exact K2.out; exact rfl))
    (with_reducible refine (HK.out _).mono ?_)
    rintro e w3 ⟨rfl, hb3⟩
    have M3 := Lib.hid (M2.out.call hb3)
    have K3 := Lib.hid (M3.out.heap 1 rfl)
    clear hb3 M2 K2
    go_wp2_with ((with_reducible refine wpList_load_rowG ?_ 28 _ rfl (w2.heap.size) ?_ 28 #[.slice none 0 0, .int .i64 0, .int .i64 0, .int .i64 0, .int .i64 0, .int .i64 0, .int .i64 0] (0, 0) _ 7 ?_ Tryz.underlying28 rfl (by kernel_rfl) ?_ ?_); kernel_rfl; exact rfl; exact K3.out; exact rfl)
    (with_reducible refine (HM.out _).mono ?_)
    rintro e w4 ⟨rfl, hb4⟩
    have M4 := Lib.hid (M3.out.call hb4)
    clear hb4
    go_wp2
    go_ret
    exact ⟨rfl, M4.out.below⟩
  by_cases h2 : ro < 1
  · have d0 : decide (sa < 1) = false := decide_eq_false h0
    have d1 : decide (256 < sa) = false := decide_eq_false h1
    have d2 : decide (ro < 1) = true := decide_eq_true h2
    go_enter Tryz.func3, Tryz.ntmps3
    go_wp2_with fail
    (with_reducible refine (awake44 _).mono ?_)
    rintro e w1 ⟨rfl, hb1⟩
    have M1 := Lib.hid (((Mem.start w).alloc (.cells #[.int .i64 p.mn, .int .i64 p.mx, .int .i64 p.tg, .int .i64 p.tl, .int .i64 p.wi, .int .i64 p.ho] 23)).call hb1)
    have K0 := Lib.hid (M1.out.heap 0 rfl)
    clear hb1
    go_wp2_with ((with_reducible refine wpList_load_rowAs rfl 23 _ rfl (w.heap.size) ?_ 23 #[.int .i64 p.mn, .int .i64 p.mx, .int .i64 p.tg, .int .i64 p.tl, .int .i64 p.wi, .int .i64 p.ho] (0, 0) _ 6 ?_ Tryz.underlying23 rfl (by kernel_rfl) ?_ ?_); exact rfl; exact K0.out; exact rfl)
    (with_reducible refine (HR.out _).mono ?_)
    rintro e w2 ⟨rfl, hb2⟩
    have M2 := Lib.hid ((M1.out.call hb2).alloc (.cells #[.slice none 0 0, .int .i64 0, .int .i64 0, .int .i64 0, .int .i64 0, .int .i64 0, .int .i64 0] 28))
    have K2 := Lib.hid (M2.out.heap 0 rfl)
    clear hb2 M1 K0
    go_wp2_with (first | ((with_reducible refine wpList_store_rowAs rfl 28 _ _ rfl (w2.heap.size) #[.slice none 0 0, .int .i64 0, .int .i64 0, .int .i64 0, .int .i64 0, .int .i64 0, .int .i64 0] ?_ ?_ 28 #[.slice none 0 0, .int .i64 0, .int .i64 0, .int .i64 0, .int .i64 0, .int .i64 0, .int .i64 0] 7 ?_ (by kernel_rfl) rfl rfl (by simp [Value.oneCell']) ?_); exact rfl; exact rfl; exact (heap_alloc_at _ _ _ rfl); (first | rw [row_1_0] | rw [row_2_0] | rw [row_2_1] | rw [row_3_0] | rw [row_3_1] | rw [row_3_2] | rw [row_4_0] | rw [row_4_1] | rw [row_4_2] | rw [row_4_3] | rw [row_5_0] | rw [row_5_1] | rw [row_5_2] | rw [row_5_3] | rw [row_5_4] | rw [row_6_0] | rw [row_6_1] | rw [row_6_2] | rw [row_6_3] | rw [row_6_4] | rw [row_6_5] | simp only [setRow_alloc_past, setRow_alloc_at, World.size_alloc, Nat.add_assoc, Nat.reduceAdd, Nat.lt_add_right_iff_pos, Nat.add_lt_add_iff_left, Nat.reduceLT, Nat.zero_lt_succ, Nat.lt_add_one])) | ((with_reducible refine wpList_load_rowAs rfl 23 _ rfl (w.heap.size) ?_ 23 #[.int .i64 p.mn, .int .i64 p.mx, .int .i64 p.tg, .int .i64 p.tl, .int .i64 p.wi, .int .i64 p.ho] (0, 0) _ 6 ?_ Tryz.underlying23 rfl (by kernel_rfl) ?_ ?_); exact rfl; exact K2.out; exact rfl))
    (with_reducible refine (HK.out _).mono ?_)
    rintro e w3 ⟨rfl, hb3⟩
    have M3 := Lib.hid (M2.out.call hb3)
    have K3 := Lib.hid (M3.out.heap 1 rfl)
    clear hb3 M2 K2
    go_wp2_with ((with_reducible refine wpList_load_rowG ?_ 28 _ rfl (w2.heap.size) ?_ 28 #[.slice none 0 0, .int .i64 0, .int .i64 0, .int .i64 0, .int .i64 0, .int .i64 0, .int .i64 0] (0, 0) _ 7 ?_ Tryz.underlying28 rfl (by kernel_rfl) ?_ ?_); kernel_rfl; exact rfl; exact K3.out; exact rfl)
    (with_reducible refine (HM.out _).mono ?_)
    rintro e w4 ⟨rfl, hb4⟩
    have M4 := Lib.hid (M3.out.call hb4)
    clear hb4
    go_wp2
    go_ret
    exact ⟨rfl, M4.out.below⟩
  by_cases h3 : 64 < ro
  · have d0 : decide (sa < 1) = false := decide_eq_false h0
    have d1 : decide (256 < sa) = false := decide_eq_false h1
    have d2 : decide (ro < 1) = false := decide_eq_false h2
    have d3 : decide (64 < ro) = true := decide_eq_true h3
    go_enter Tryz.func3, Tryz.ntmps3
    go_wp2_with fail
    (with_reducible refine (awake44 _).mono ?_)
    rintro e w1 ⟨rfl, hb1⟩
    have M1 := Lib.hid (((Mem.start w).alloc (.cells #[.int .i64 p.mn, .int .i64 p.mx, .int .i64 p.tg, .int .i64 p.tl, .int .i64 p.wi, .int .i64 p.ho] 23)).call hb1)
    have K0 := Lib.hid (M1.out.heap 0 rfl)
    clear hb1
    go_wp2_with ((with_reducible refine wpList_load_rowAs rfl 23 _ rfl (w.heap.size) ?_ 23 #[.int .i64 p.mn, .int .i64 p.mx, .int .i64 p.tg, .int .i64 p.tl, .int .i64 p.wi, .int .i64 p.ho] (0, 0) _ 6 ?_ Tryz.underlying23 rfl (by kernel_rfl) ?_ ?_); exact rfl; exact K0.out; exact rfl)
    (with_reducible refine (HR.out _).mono ?_)
    rintro e w2 ⟨rfl, hb2⟩
    have M2 := Lib.hid ((M1.out.call hb2).alloc (.cells #[.slice none 0 0, .int .i64 0, .int .i64 0, .int .i64 0, .int .i64 0, .int .i64 0, .int .i64 0] 28))
    have K2 := Lib.hid (M2.out.heap 0 rfl)
    clear hb2 M1 K0
    go_wp2_with (first | ((with_reducible refine wpList_store_rowAs rfl 28 _ _ rfl (w2.heap.size) #[.slice none 0 0, .int .i64 0, .int .i64 0, .int .i64 0, .int .i64 0, .int .i64 0, .int .i64 0] ?_ ?_ 28 #[.slice none 0 0, .int .i64 0, .int .i64 0, .int .i64 0, .int .i64 0, .int .i64 0, .int .i64 0] 7 ?_ (by kernel_rfl) rfl rfl (by simp [Value.oneCell']) ?_); exact rfl; exact rfl; exact (heap_alloc_at _ _ _ rfl); (first | rw [row_1_0] | rw [row_2_0] | rw [row_2_1] | rw [row_3_0] | rw [row_3_1] | rw [row_3_2] | rw [row_4_0] | rw [row_4_1] | rw [row_4_2] | rw [row_4_3] | rw [row_5_0] | rw [row_5_1] | rw [row_5_2] | rw [row_5_3] | rw [row_5_4] | rw [row_6_0] | rw [row_6_1] | rw [row_6_2] | rw [row_6_3] | rw [row_6_4] | rw [row_6_5] | simp only [setRow_alloc_past, setRow_alloc_at, World.size_alloc, Nat.add_assoc, Nat.reduceAdd, Nat.lt_add_right_iff_pos, Nat.add_lt_add_iff_left, Nat.reduceLT, Nat.zero_lt_succ, Nat.lt_add_one])) | ((with_reducible refine wpList_load_rowAs rfl 23 _ rfl (w.heap.size) ?_ 23 #[.int .i64 p.mn, .int .i64 p.mx, .int .i64 p.tg, .int .i64 p.tl, .int .i64 p.wi, .int .i64 p.ho] (0, 0) _ 6 ?_ Tryz.underlying23 rfl (by kernel_rfl) ?_ ?_); exact rfl; exact K2.out; exact rfl))
    (with_reducible refine (HK.out _).mono ?_)
    rintro e w3 ⟨rfl, hb3⟩
    have M3 := Lib.hid (M2.out.call hb3)
    have K3 := Lib.hid (M3.out.heap 1 rfl)
    clear hb3 M2 K2
    go_wp2_with ((with_reducible refine wpList_load_rowG ?_ 28 _ rfl (w2.heap.size) ?_ 28 #[.slice none 0 0, .int .i64 0, .int .i64 0, .int .i64 0, .int .i64 0, .int .i64 0, .int .i64 0] (0, 0) _ 7 ?_ Tryz.underlying28 rfl (by kernel_rfl) ?_ ?_); kernel_rfl; exact rfl; exact K3.out; exact rfl)
    (with_reducible refine (HM.out _).mono ?_)
    rintro e w4 ⟨rfl, hb4⟩
    have M4 := Lib.hid (M3.out.call hb4)
    clear hb4
    go_wp2
    go_ret
    exact ⟨rfl, M4.out.below⟩
  have d0 : decide (sa < 1) = false := decide_eq_false h0
  have d1 : decide (256 < sa) = false := decide_eq_false h1
  have d2 : decide (ro < 1) = false := decide_eq_false h2
  have d3 : decide (64 < ro) = false := decide_eq_false h3
  go_enter Tryz.func3, Tryz.ntmps3
  go_wp2_with fail
  (with_reducible refine (awake44 _).mono ?_)
  rintro e w1 ⟨rfl, hb1⟩
  have M1 := Lib.hid (((Mem.start w).alloc (.cells #[.int .i64 p.mn, .int .i64 p.mx, .int .i64 p.tg, .int .i64 p.tl, .int .i64 p.wi, .int .i64 p.ho] 23)).call hb1)
  have K0 := Lib.hid (M1.out.heap 0 rfl)
  clear hb1
  go_wp2_with ((with_reducible refine wpList_load_rowAs rfl 23 _ rfl (w.heap.size) ?_ 23 #[.int .i64 p.mn, .int .i64 p.mx, .int .i64 p.tg, .int .i64 p.tl, .int .i64 p.wi, .int .i64 p.ho] (0, 0) _ 6 ?_ Tryz.underlying23 rfl (by kernel_rfl) ?_ ?_); exact rfl; exact K0.out; exact rfl)
  (with_reducible refine (HR.out _).mono ?_)
  rintro e w2 ⟨rfl, hb2⟩
  have M2 := Lib.hid ((M1.out.call hb2).alloc (.cells #[.slice none 0 0, .int .i64 0, .int .i64 0, .int .i64 0, .int .i64 0, .int .i64 0, .int .i64 0] 28))
  have K2 := Lib.hid (M2.out.heap 0 rfl)
  clear hb2 M1 K0
  go_wp2_with (first | ((with_reducible refine wpList_store_rowAs rfl 28 _ _ rfl (w2.heap.size) #[.slice none 0 0, .int .i64 0, .int .i64 0, .int .i64 0, .int .i64 0, .int .i64 0, .int .i64 0] ?_ ?_ 28 #[.slice none 0 0, .int .i64 0, .int .i64 0, .int .i64 0, .int .i64 0, .int .i64 0, .int .i64 0] 7 ?_ (by kernel_rfl) rfl rfl (by simp [Value.oneCell']) ?_); exact rfl; exact rfl; exact (heap_alloc_at _ _ _ rfl); (first | rw [row_1_0] | rw [row_2_0] | rw [row_2_1] | rw [row_3_0] | rw [row_3_1] | rw [row_3_2] | rw [row_4_0] | rw [row_4_1] | rw [row_4_2] | rw [row_4_3] | rw [row_5_0] | rw [row_5_1] | rw [row_5_2] | rw [row_5_3] | rw [row_5_4] | rw [row_6_0] | rw [row_6_1] | rw [row_6_2] | rw [row_6_3] | rw [row_6_4] | rw [row_6_5] | simp only [setRow_alloc_past, setRow_alloc_at, World.size_alloc, Nat.add_assoc, Nat.reduceAdd, Nat.lt_add_right_iff_pos, Nat.add_lt_add_iff_left, Nat.reduceLT, Nat.zero_lt_succ, Nat.lt_add_one])) | ((with_reducible refine wpList_load_rowAs rfl 23 _ rfl (w.heap.size) ?_ 23 #[.int .i64 p.mn, .int .i64 p.mx, .int .i64 p.tg, .int .i64 p.tl, .int .i64 p.wi, .int .i64 p.ho] (0, 0) _ 6 ?_ Tryz.underlying23 rfl (by kernel_rfl) ?_ ?_); exact rfl; exact K2.out; exact rfl))
  (with_reducible refine (HK.out _).mono ?_)
  rintro e w3 ⟨rfl, hb3⟩
  have M3 := Lib.hid (M2.out.call hb3)
  have K3 := Lib.hid (M3.out.heap 1 rfl)
  clear hb3 M2 K2
  go_wp2_with ((with_reducible refine wpList_load_rowG ?_ 28 _ rfl (w2.heap.size) ?_ 28 #[.slice none 0 0, .int .i64 0, .int .i64 0, .int .i64 0, .int .i64 0, .int .i64 0, .int .i64 0] (0, 0) _ 7 ?_ Tryz.underlying28 rfl (by kernel_rfl) ?_ ?_); kernel_rfl; exact rfl; exact K3.out; exact rfl)
  (with_reducible refine (HM.out _).mono ?_)
  rintro e w4 ⟨rfl, hb4⟩
  have M4 := Lib.hid (M3.out.call hb4)
  clear hb4
  go_wp2
  go_ret
  exact ⟨rfl, M4.out.below⟩

set_option maxHeartbeats 4000000 in
set_option maxRecDepth 100000 in
theorem trialRuns_arg (p : Pol) (hok : p.ok = true) (q : Option Addr) (cap : Nat) (n : Nat) (h20 : n ≤ 20) (sa ro : Int) (hbad : sa < 1 ∨ 256 < sa ∨ ro < 1 ∨ 64 < ro) (w : World) :
    Calls Tryz.prog 3 #[.agg #[.int .i64 p.mn, .int .i64 p.mx, .int .i64 p.tg, .int .i64 p.tl, .int .i64 p.wi, .int .i64 p.ho], .slice q n cap, .int .i64 sa, .int .i64 ro] w fun e w' => e = .returned (.bool true) ∧ Below w.heap.size w w' := by
  have HR := Lib.hid (fun W => trial_run_arg p hok q n cap sa ro hbad W)
  have HK := Lib.hid (fun W => ref_polRight p W)
  have HM := Lib.hid (fun W => ref44_same none none 0 0 0 [] rfl (by omega) 0 0 0 0 0 0 W (.inl rfl) (.inl rfl))
  rw [hok] at HK
  have dn : decide ((20 : Int) < n) = false := decide_eq_false (by omega)
  clear hok h20
  by_cases h0 : sa < 1
  · have d0 : decide (sa < 1) = true := decide_eq_true h0
    clear hbad
    go_enter Tryz.func3, Tryz.ntmps3
    go_wp2_with fail
    (with_reducible refine (awake44 _).mono ?_)
    rintro e w1 ⟨rfl, hb1⟩
    have M1 := Lib.hid (((Mem.start w).alloc (.cells #[.int .i64 p.mn, .int .i64 p.mx, .int .i64 p.tg, .int .i64 p.tl, .int .i64 p.wi, .int .i64 p.ho] 23)).call hb1)
    have K0 := Lib.hid (M1.out.heap 0 rfl)
    clear hb1
    go_wp2_with ((with_reducible refine wpList_load_rowAs rfl 23 _ rfl (w.heap.size) ?_ 23 #[.int .i64 p.mn, .int .i64 p.mx, .int .i64 p.tg, .int .i64 p.tl, .int .i64 p.wi, .int .i64 p.ho] (0, 0) _ 6 ?_ Tryz.underlying23 rfl (by kernel_rfl) ?_ ?_); exact rfl; exact K0.out; exact rfl)
    (with_reducible refine (HR.out _).mono ?_)
    rintro e w2 ⟨rfl, hb2⟩
    have M2 := Lib.hid ((M1.out.call hb2).alloc (.cells #[.slice none 0 0, .int .i64 0, .int .i64 0, .int .i64 0, .int .i64 0, .int .i64 0, .int .i64 0] 28))
    have K2 := Lib.hid (M2.out.heap 0 rfl)
    clear hb2 M1 K0
    go_wp2_with (first | ((with_reducible refine wpList_store_rowAs rfl 28 _ _ rfl (w2.heap.size) #[.slice none 0 0, .int .i64 0, .int .i64 0, .int .i64 0, .int .i64 0, .int .i64 0, .int .i64 0] ?_ ?_ 28 #[.slice none 0 0, .int .i64 0, .int .i64 0, .int .i64 0, .int .i64 0, .int .i64 0, .int .i64 0] 7 ?_ (by kernel_rfl) rfl rfl (by simp [Value.oneCell']) ?_); exact rfl; exact rfl; exact (heap_alloc_at _ _ _ rfl); (first | rw [row_1_0] | rw [row_2_0] | rw [row_2_1] | rw [row_3_0] | rw [row_3_1] | rw [row_3_2] | rw [row_4_0] | rw [row_4_1] | rw [row_4_2] | rw [row_4_3] | rw [row_5_0] | rw [row_5_1] | rw [row_5_2] | rw [row_5_3] | rw [row_5_4] | rw [row_6_0] | rw [row_6_1] | rw [row_6_2] | rw [row_6_3] | rw [row_6_4] | rw [row_6_5] | simp only [setRow_alloc_past, setRow_alloc_at, World.size_alloc, Nat.add_assoc, Nat.reduceAdd, Nat.lt_add_right_iff_pos, Nat.add_lt_add_iff_left, Nat.reduceLT, Nat.zero_lt_succ, Nat.lt_add_one])) | ((with_reducible refine wpList_load_rowAs rfl 23 _ rfl (w.heap.size) ?_ 23 #[.int .i64 p.mn, .int .i64 p.mx, .int .i64 p.tg, .int .i64 p.tl, .int .i64 p.wi, .int .i64 p.ho] (0, 0) _ 6 ?_ Tryz.underlying23 rfl (by kernel_rfl) ?_ ?_); exact rfl; exact K2.out; exact rfl))
    (with_reducible refine (HK.out _).mono ?_)
    rintro e w3 ⟨rfl, hb3⟩
    have M3 := Lib.hid (M2.out.call hb3)
    have K3 := Lib.hid (M3.out.heap 1 rfl)
    clear hb3 M2 K2
    go_wp2_with ((with_reducible refine wpList_load_rowG ?_ 28 _ rfl (w2.heap.size) ?_ 28 #[.slice none 0 0, .int .i64 0, .int .i64 0, .int .i64 0, .int .i64 0, .int .i64 0, .int .i64 0] (0, 0) _ 7 ?_ Tryz.underlying28 rfl (by kernel_rfl) ?_ ?_); kernel_rfl; exact rfl; exact K3.out; exact rfl)
    (with_reducible refine (HM.out _).mono ?_)
    rintro e w4 ⟨rfl, hb4⟩
    have M4 := Lib.hid (M3.out.call hb4)
    clear hb4
    go_wp2
    go_ret
    exact ⟨rfl, M4.out.below⟩
  by_cases h1 : 256 < sa
  · have d0 : decide (sa < 1) = false := decide_eq_false h0
    have d1 : decide (256 < sa) = true := decide_eq_true h1
    clear hbad
    go_enter Tryz.func3, Tryz.ntmps3
    go_wp2_with fail
    (with_reducible refine (awake44 _).mono ?_)
    rintro e w1 ⟨rfl, hb1⟩
    have M1 := Lib.hid (((Mem.start w).alloc (.cells #[.int .i64 p.mn, .int .i64 p.mx, .int .i64 p.tg, .int .i64 p.tl, .int .i64 p.wi, .int .i64 p.ho] 23)).call hb1)
    have K0 := Lib.hid (M1.out.heap 0 rfl)
    clear hb1
    go_wp2_with ((with_reducible refine wpList_load_rowAs rfl 23 _ rfl (w.heap.size) ?_ 23 #[.int .i64 p.mn, .int .i64 p.mx, .int .i64 p.tg, .int .i64 p.tl, .int .i64 p.wi, .int .i64 p.ho] (0, 0) _ 6 ?_ Tryz.underlying23 rfl (by kernel_rfl) ?_ ?_); exact rfl; exact K0.out; exact rfl)
    (with_reducible refine (HR.out _).mono ?_)
    rintro e w2 ⟨rfl, hb2⟩
    have M2 := Lib.hid ((M1.out.call hb2).alloc (.cells #[.slice none 0 0, .int .i64 0, .int .i64 0, .int .i64 0, .int .i64 0, .int .i64 0, .int .i64 0] 28))
    have K2 := Lib.hid (M2.out.heap 0 rfl)
    clear hb2 M1 K0
    go_wp2_with (first | ((with_reducible refine wpList_store_rowAs rfl 28 _ _ rfl (w2.heap.size) #[.slice none 0 0, .int .i64 0, .int .i64 0, .int .i64 0, .int .i64 0, .int .i64 0, .int .i64 0] ?_ ?_ 28 #[.slice none 0 0, .int .i64 0, .int .i64 0, .int .i64 0, .int .i64 0, .int .i64 0, .int .i64 0] 7 ?_ (by kernel_rfl) rfl rfl (by simp [Value.oneCell']) ?_); exact rfl; exact rfl; exact (heap_alloc_at _ _ _ rfl); (first | rw [row_1_0] | rw [row_2_0] | rw [row_2_1] | rw [row_3_0] | rw [row_3_1] | rw [row_3_2] | rw [row_4_0] | rw [row_4_1] | rw [row_4_2] | rw [row_4_3] | rw [row_5_0] | rw [row_5_1] | rw [row_5_2] | rw [row_5_3] | rw [row_5_4] | rw [row_6_0] | rw [row_6_1] | rw [row_6_2] | rw [row_6_3] | rw [row_6_4] | rw [row_6_5] | simp only [setRow_alloc_past, setRow_alloc_at, World.size_alloc, Nat.add_assoc, Nat.reduceAdd, Nat.lt_add_right_iff_pos, Nat.add_lt_add_iff_left, Nat.reduceLT, Nat.zero_lt_succ, Nat.lt_add_one])) | ((with_reducible refine wpList_load_rowAs rfl 23 _ rfl (w.heap.size) ?_ 23 #[.int .i64 p.mn, .int .i64 p.mx, .int .i64 p.tg, .int .i64 p.tl, .int .i64 p.wi, .int .i64 p.ho] (0, 0) _ 6 ?_ Tryz.underlying23 rfl (by kernel_rfl) ?_ ?_); exact rfl; exact K2.out; exact rfl))
    (with_reducible refine (HK.out _).mono ?_)
    rintro e w3 ⟨rfl, hb3⟩
    have M3 := Lib.hid (M2.out.call hb3)
    have K3 := Lib.hid (M3.out.heap 1 rfl)
    clear hb3 M2 K2
    go_wp2_with ((with_reducible refine wpList_load_rowG ?_ 28 _ rfl (w2.heap.size) ?_ 28 #[.slice none 0 0, .int .i64 0, .int .i64 0, .int .i64 0, .int .i64 0, .int .i64 0, .int .i64 0] (0, 0) _ 7 ?_ Tryz.underlying28 rfl (by kernel_rfl) ?_ ?_); kernel_rfl; exact rfl; exact K3.out; exact rfl)
    (with_reducible refine (HM.out _).mono ?_)
    rintro e w4 ⟨rfl, hb4⟩
    have M4 := Lib.hid (M3.out.call hb4)
    clear hb4
    go_wp2
    go_ret
    exact ⟨rfl, M4.out.below⟩
  by_cases h2 : ro < 1
  · have d0 : decide (sa < 1) = false := decide_eq_false h0
    have d1 : decide (256 < sa) = false := decide_eq_false h1
    have d2 : decide (ro < 1) = true := decide_eq_true h2
    clear hbad
    go_enter Tryz.func3, Tryz.ntmps3
    go_wp2_with fail
    (with_reducible refine (awake44 _).mono ?_)
    rintro e w1 ⟨rfl, hb1⟩
    have M1 := Lib.hid (((Mem.start w).alloc (.cells #[.int .i64 p.mn, .int .i64 p.mx, .int .i64 p.tg, .int .i64 p.tl, .int .i64 p.wi, .int .i64 p.ho] 23)).call hb1)
    have K0 := Lib.hid (M1.out.heap 0 rfl)
    clear hb1
    go_wp2_with ((with_reducible refine wpList_load_rowAs rfl 23 _ rfl (w.heap.size) ?_ 23 #[.int .i64 p.mn, .int .i64 p.mx, .int .i64 p.tg, .int .i64 p.tl, .int .i64 p.wi, .int .i64 p.ho] (0, 0) _ 6 ?_ Tryz.underlying23 rfl (by kernel_rfl) ?_ ?_); exact rfl; exact K0.out; exact rfl)
    (with_reducible refine (HR.out _).mono ?_)
    rintro e w2 ⟨rfl, hb2⟩
    have M2 := Lib.hid ((M1.out.call hb2).alloc (.cells #[.slice none 0 0, .int .i64 0, .int .i64 0, .int .i64 0, .int .i64 0, .int .i64 0, .int .i64 0] 28))
    have K2 := Lib.hid (M2.out.heap 0 rfl)
    clear hb2 M1 K0
    go_wp2_with (first | ((with_reducible refine wpList_store_rowAs rfl 28 _ _ rfl (w2.heap.size) #[.slice none 0 0, .int .i64 0, .int .i64 0, .int .i64 0, .int .i64 0, .int .i64 0, .int .i64 0] ?_ ?_ 28 #[.slice none 0 0, .int .i64 0, .int .i64 0, .int .i64 0, .int .i64 0, .int .i64 0, .int .i64 0] 7 ?_ (by kernel_rfl) rfl rfl (by simp [Value.oneCell']) ?_); exact rfl; exact rfl; exact (heap_alloc_at _ _ _ rfl); (first | rw [row_1_0] | rw [row_2_0] | rw [row_2_1] | rw [row_3_0] | rw [row_3_1] | rw [row_3_2] | rw [row_4_0] | rw [row_4_1] | rw [row_4_2] | rw [row_4_3] | rw [row_5_0] | rw [row_5_1] | rw [row_5_2] | rw [row_5_3] | rw [row_5_4] | rw [row_6_0] | rw [row_6_1] | rw [row_6_2] | rw [row_6_3] | rw [row_6_4] | rw [row_6_5] | simp only [setRow_alloc_past, setRow_alloc_at, World.size_alloc, Nat.add_assoc, Nat.reduceAdd, Nat.lt_add_right_iff_pos, Nat.add_lt_add_iff_left, Nat.reduceLT, Nat.zero_lt_succ, Nat.lt_add_one])) | ((with_reducible refine wpList_load_rowAs rfl 23 _ rfl (w.heap.size) ?_ 23 #[.int .i64 p.mn, .int .i64 p.mx, .int .i64 p.tg, .int .i64 p.tl, .int .i64 p.wi, .int .i64 p.ho] (0, 0) _ 6 ?_ Tryz.underlying23 rfl (by kernel_rfl) ?_ ?_); exact rfl; exact K2.out; exact rfl))
    (with_reducible refine (HK.out _).mono ?_)
    rintro e w3 ⟨rfl, hb3⟩
    have M3 := Lib.hid (M2.out.call hb3)
    have K3 := Lib.hid (M3.out.heap 1 rfl)
    clear hb3 M2 K2
    go_wp2_with ((with_reducible refine wpList_load_rowG ?_ 28 _ rfl (w2.heap.size) ?_ 28 #[.slice none 0 0, .int .i64 0, .int .i64 0, .int .i64 0, .int .i64 0, .int .i64 0, .int .i64 0] (0, 0) _ 7 ?_ Tryz.underlying28 rfl (by kernel_rfl) ?_ ?_); kernel_rfl; exact rfl; exact K3.out; exact rfl)
    (with_reducible refine (HM.out _).mono ?_)
    rintro e w4 ⟨rfl, hb4⟩
    have M4 := Lib.hid (M3.out.call hb4)
    clear hb4
    go_wp2
    go_ret
    exact ⟨rfl, M4.out.below⟩
  by_cases h3 : 64 < ro
  · have d0 : decide (sa < 1) = false := decide_eq_false h0
    have d1 : decide (256 < sa) = false := decide_eq_false h1
    have d2 : decide (ro < 1) = false := decide_eq_false h2
    have d3 : decide (64 < ro) = true := decide_eq_true h3
    clear hbad
    go_enter Tryz.func3, Tryz.ntmps3
    go_wp2_with fail
    (with_reducible refine (awake44 _).mono ?_)
    rintro e w1 ⟨rfl, hb1⟩
    have M1 := Lib.hid (((Mem.start w).alloc (.cells #[.int .i64 p.mn, .int .i64 p.mx, .int .i64 p.tg, .int .i64 p.tl, .int .i64 p.wi, .int .i64 p.ho] 23)).call hb1)
    have K0 := Lib.hid (M1.out.heap 0 rfl)
    clear hb1
    go_wp2_with ((with_reducible refine wpList_load_rowAs rfl 23 _ rfl (w.heap.size) ?_ 23 #[.int .i64 p.mn, .int .i64 p.mx, .int .i64 p.tg, .int .i64 p.tl, .int .i64 p.wi, .int .i64 p.ho] (0, 0) _ 6 ?_ Tryz.underlying23 rfl (by kernel_rfl) ?_ ?_); exact rfl; exact K0.out; exact rfl)
    (with_reducible refine (HR.out _).mono ?_)
    rintro e w2 ⟨rfl, hb2⟩
    have M2 := Lib.hid ((M1.out.call hb2).alloc (.cells #[.slice none 0 0, .int .i64 0, .int .i64 0, .int .i64 0, .int .i64 0, .int .i64 0, .int .i64 0] 28))
    have K2 := Lib.hid (M2.out.heap 0 rfl)
    clear hb2 M1 K0
    go_wp2_with (first | ((with_reducible refine wpList_store_rowAs rfl 28 _ _ rfl (w2.heap.size) #[.slice none 0 0, .int .i64 0, .int .i64 0, .int .i64 0, .int .i64 0, .int .i64 0, .int .i64 0] ?_ ?_ 28 #[.slice none 0 0, .int .i64 0, .int .i64 0, .int .i64 0, .int .i64 0, .int .i64 0, .int .i64 0] 7 ?_ (by kernel_rfl) rfl rfl (by simp [Value.oneCell']) ?_); exact rfl; exact rfl; exact (heap_alloc_at _ _ _ rfl); (first | rw [row_1_0] | rw [row_2_0] | rw [row_2_1] | rw [row_3_0] | rw [row_3_1] | rw [row_3_2] | rw [row_4_0] | rw [row_4_1] | rw [row_4_2] | rw [row_4_3] | rw [row_5_0] | rw [row_5_1] | rw [row_5_2] | rw [row_5_3] | rw [row_5_4] | rw [row_6_0] | rw [row_6_1] | rw [row_6_2] | rw [row_6_3] | rw [row_6_4] | rw [row_6_5] | simp only [setRow_alloc_past, setRow_alloc_at, World.size_alloc, Nat.add_assoc, Nat.reduceAdd, Nat.lt_add_right_iff_pos, Nat.add_lt_add_iff_left, Nat.reduceLT, Nat.zero_lt_succ, Nat.lt_add_one])) | ((with_reducible refine wpList_load_rowAs rfl 23 _ rfl (w.heap.size) ?_ 23 #[.int .i64 p.mn, .int .i64 p.mx, .int .i64 p.tg, .int .i64 p.tl, .int .i64 p.wi, .int .i64 p.ho] (0, 0) _ 6 ?_ Tryz.underlying23 rfl (by kernel_rfl) ?_ ?_); exact rfl; exact K2.out; exact rfl))
    (with_reducible refine (HK.out _).mono ?_)
    rintro e w3 ⟨rfl, hb3⟩
    have M3 := Lib.hid (M2.out.call hb3)
    have K3 := Lib.hid (M3.out.heap 1 rfl)
    clear hb3 M2 K2
    go_wp2_with ((with_reducible refine wpList_load_rowG ?_ 28 _ rfl (w2.heap.size) ?_ 28 #[.slice none 0 0, .int .i64 0, .int .i64 0, .int .i64 0, .int .i64 0, .int .i64 0, .int .i64 0] (0, 0) _ 7 ?_ Tryz.underlying28 rfl (by kernel_rfl) ?_ ?_); kernel_rfl; exact rfl; exact K3.out; exact rfl)
    (with_reducible refine (HM.out _).mono ?_)
    rintro e w4 ⟨rfl, hb4⟩
    have M4 := Lib.hid (M3.out.call hb4)
    clear hb4
    go_wp2
    go_ret
    exact ⟨rfl, M4.out.below⟩
  omega

set_option maxHeartbeats 4000000 in
set_option maxRecDepth 100000 in
theorem trialRuns_fine (p : Pol) (hp : p.In) (hok : p.ok = true) (q : Option Addr) (cap : Nat) (l : List Samp) (hl : ∀ a ∈ l, a.In) (hb : l.length ≤ 20) (sa ro : Int) (h0 : ¬ sa < 1) (h1 : ¬ 256 < sa) (h2 : ¬ ro < 1) (h3 : ¬ 64 < ro) (w : World) (hs : Samps w q l) :
    Calls Tryz.prog 3 #[.agg #[.int .i64 p.mn, .int .i64 p.mx, .int .i64 p.tg, .int .i64 p.tl, .int .i64 p.wi, .int .i64 p.ho], .slice q l.length cap, .int .i64 sa, .int .i64 ro] w fun e w' => e = .returned (.bool true) ∧ Below w.heap.size w w' := by
  have r1 := fun W : World => fun h : Samps W q l => trial_run p hp hok q cap l hl (by omega) sa ro h0 h1 h2 h3 W h
  have f4 := fun W : World => fun h : Samps W q l => refFollow_of p hp q cap l hl (by omega) sa ro W h
  have hall := Fol.all p hp l hl sa ro
  have hlen := Fol.length_le p l sa ro
  have hstd := Fol.steady p hp l hl sa ro
  obtain ⟨r, er⟩ : ∃ r, r = Fol.of p l sa ro := ⟨_, rfl⟩
  simp only [← er] at r1 f4 hall hlen hstd
  unfold Run.row at r1
  obtain ⟨m, em⟩ : ∃ m, m = r.length := ⟨_, rfl⟩
  have f5 := fun (u : Option Addr) (d : Nat) (W : World) (h : Advs W u r) => ref44_judge p hp u m d r em.symm (fun a ha => (hall a ha).1) (by omega) W h
  have f6 := fun (u u2 : Option Addr) (d d2 : Nat) (C T a b x y : Int) (W : World) (h : Advs W u r) (h2 : Advs W u2 r) => ref44_same u u2 m d d2 r em.symm (by omega) C T a b x y W h h2
  rw [← em] at hlen
  simp only [← em] at r1 f4 hstd
  unfold Tri.row at r1 f5
  obtain ⟨C, eC⟩ : ∃ x : Int, x = (Adv.changes (Adv.rep r) m : Nat) := ⟨_, rfl⟩
  obtain ⟨T, eT⟩ : ∃ x : Int, x = ((Adv.turns (Adv.rep r) m).1 : Nat) := ⟨_, rfl⟩
  obtain ⟨a, ea⟩ : ∃ x, x = Tri.lo (Adv.rep r) m := ⟨_, rfl⟩
  obtain ⟨b, eb⟩ : ∃ x, x = Tri.hi (Adv.rep r) m := ⟨_, rfl⟩
  obtain ⟨x, ex⟩ : ∃ x, x = Tri.sp (Tri.left p.tg r) m := ⟨_, rfl⟩
  obtain ⟨y, ey⟩ : ∃ x, x = Tri.sh (Tri.left p.tg r) m := ⟨_, rfl⟩
  have hC : p.mn = p.mx → C = 0 := fun h => by rw [eC, hstd h]; rfl
  simp only [← eC, ← eT, ← ea, ← eb, ← ex, ← ey] at r1 f5
  have f6 := fun (u u2 : Option Addr) (d d2 : Nat) (W : World) (h : Advs W u r) (h2 : Advs W u2 r) => f6 u u2 d d2 C T a b x y W h h2
  have HR := Lib.hid r1
  have F4 := Lib.hid f4
  have F5 := Lib.hid f5
  have F6 := Lib.hid f6
  have HS := Lib.hid hs
  have HK := Lib.hid (fun W => ref_polRight p W)
  rw [hok] at HK
  have d0 : decide (sa < 1) = false := decide_eq_false h0
  have d1 : decide (256 < sa) = false := decide_eq_false h1
  have d2 : decide (ro < 1) = false := decide_eq_false h2
  have d3 : decide (64 < ro) = false := decide_eq_false h3
  obtain ⟨n, en⟩ : ∃ n, n = l.length := ⟨_, rfl⟩
  rw [← en] at hb
  simp only [← en] at HR F4 ⊢
  have dn : decide ((20 : Int) < n) = false := decide_eq_false (by omega)
  clear hok r1 f4 f5 f6 eC eT ea eb ex ey em er hall hlen hs hl hp hb h0 h1 h2 h3 en hstd
  by_cases hm : p.mn = p.mx
  · obtain rfl : C = 0 := hC hm
    have bm : (p.mn == p.mx) = true := beq_iff_eq.2 hm
    clear hm hC
    go_enter Tryz.func3, Tryz.ntmps3
    go_wp2_with fail
    (with_reducible refine (awake44 _).mono ?_)
    rintro e w1 ⟨rfl, hb1⟩
    have M1 := Lib.hid (((Mem.start w).alloc (.cells #[.int .i64 p.mn, .int .i64 p.mx, .int .i64 p.tg, .int .i64 p.tl, .int .i64 p.wi, .int .i64 p.ho] 23)).call hb1)
    have K0 := Lib.hid (M1.out.heap 0 rfl)
    clear hb1
    go_wp2_with ((with_reducible refine wpList_load_rowAs rfl 23 _ rfl (w.heap.size) ?_ 23 #[.int .i64 p.mn, .int .i64 p.mx, .int .i64 p.tg, .int .i64 p.tl, .int .i64 p.wi, .int .i64 p.ho] (0, 0) _ 6 ?_ Tryz.underlying23 rfl (by kernel_rfl) ?_ ?_); exact rfl; exact K0.out; exact rfl)
    (with_reducible refine (HR.out _ (HS.out.below M1.out.below)).mono ?_)
    rintro e w2 ⟨u, d, rfl, hA, hb2⟩
    have M2 := Lib.hid ((M1.out.call hb2).alloc (.cells #[.slice u m d, .int .i64 0, .int .i64 T, .int .i64 a, .int .i64 b, .int .i64 x, .int .i64 y] 28))
    have A2 := Lib.hid (hA.below (below1 w2 (.cells #[.slice u m d, .int .i64 0, .int .i64 T, .int .i64 a, .int .i64 b, .int .i64 x, .int .i64 y] 28)))
    have K2 := Lib.hid (M2.out.heap 0 rfl)
    clear hb2 M1 K0 hA
    go_wp2_with (first | ((with_reducible refine wpList_store_rowAs rfl 28 _ _ rfl (w2.heap.size) #[.slice u m d, .int .i64 0, .int .i64 T, .int .i64 a, .int .i64 b, .int .i64 x, .int .i64 y] ?_ ?_ 28 #[.slice none 0 0, .int .i64 0, .int .i64 0, .int .i64 0, .int .i64 0, .int .i64 0, .int .i64 0] 7 ?_ (by kernel_rfl) rfl rfl (by simp [Value.oneCell']) ?_); exact rfl; exact rfl; exact (heap_alloc_at _ _ _ rfl); (first | rw [row_1_0] | rw [row_2_0] | rw [row_2_1] | rw [row_3_0] | rw [row_3_1] | rw [row_3_2] | rw [row_4_0] | rw [row_4_1] | rw [row_4_2] | rw [row_4_3] | rw [row_5_0] | rw [row_5_1] | rw [row_5_2] | rw [row_5_3] | rw [row_5_4] | rw [row_6_0] | rw [row_6_1] | rw [row_6_2] | rw [row_6_3] | rw [row_6_4] | rw [row_6_5] | simp only [setRow_alloc_past, setRow_alloc_at, World.size_alloc, Nat.add_assoc, Nat.reduceAdd, Nat.lt_add_right_iff_pos, Nat.add_lt_add_iff_left, Nat.reduceLT, Nat.zero_lt_succ, Nat.lt_add_one])) | ((with_reducible refine wpList_load_rowAs rfl 23 _ rfl (w.heap.size) ?_ 23 #[.int .i64 p.mn, .int .i64 p.mx, .int .i64 p.tg, .int .i64 p.tl, .int .i64 p.wi, .int .i64 p.ho] (0, 0) _ 6 ?_ Tryz.underlying23 rfl (by kernel_rfl) ?_ ?_); exact rfl; exact K2.out; exact rfl))
    (with_reducible refine (HK.out _).mono ?_)
    rintro e w3 ⟨rfl, hb3⟩
    have A3 := Lib.hid (A2.out.below (hb3.mono (by simp)))
    have M3 := Lib.hid (M2.out.call hb3)
    have c0 := M3.out.cell 0 0 rfl rfl
    have c1 := M3.out.cell 0 1 rfl rfl
    have c2 := M3.out.cell 1 1 rfl rfl
    clear hb3 M2 K2 A2
    go_wp2_with fail
    have hst := stab_and (stab_and (stab_mem (w := w) (bs := [(w.heap.size, .cells #[.int .i64 p.mn, .int .i64 p.mx, .int .i64 p.tg, .int .i64 p.tl, .int .i64 p.wi, .int .i64 p.ho] 23), (w2.heap.size, .cells #[.slice u m d, .int .i64 0, .int .i64 T, .int .i64 a, .int .i64 b, .int .i64 x, .int .i64 y] 28)])) (stab_samps (q := q) (l := l))) (stab_advs (q := u) (l := r))
    refine wp_region_E mixed [] hst ⟨⟨M3.out.drewN 1, HS.out.below (M3.out.drewN 1).below⟩, A3.out.below (below_drew (Below.refl _ _))⟩ ?_
    refine wpAnyE_take 0 (v := .agg #[.slice u m d, .int .i64 0, .int .i64 T, .int .i64 a, .int .i64 b, .int .i64 x, .int .i64 y]) rfl (by kernel_rfl) (by kernel_rfl) (by kernel_rfl) (fun _ _ _ h => h) hst (EffB.run rfl rfl (fun wd hS => ?_)) (.inl (by kernel_rfl)) ?_
    · exact wp_load_row 28 _ rfl (w2.heap.size) rfl 28 #[.slice u m d, .int .i64 0, .int .i64 T, .int .i64 a, .int .i64 b, .int .i64 x, .int .i64 y] (0, 0) _ (hS.1.1.heap 1 rfl) Tryz.underlying28 rfl (by kernel_rfl) ⟨rfl, Below.refl _ _⟩
    simp only [act_norm]
    refine wpAnyE_take 1 (v := .agg #[.int .i64 p.mn, .int .i64 p.mx, .int .i64 p.tg, .int .i64 p.tl, .int .i64 p.wi, .int .i64 p.ho]) rfl (by kernel_rfl) (by kernel_rfl) (by kernel_rfl) (fun _ _ _ h => h) hst (EffB.run rfl rfl (fun wd hS => ?_)) (.inl (by kernel_rfl)) ?_
    · exact wp_load_row 23 _ rfl (w.heap.size) rfl 23 #[.int .i64 p.mn, .int .i64 p.mx, .int .i64 p.tg, .int .i64 p.tl, .int .i64 p.wi, .int .i64 p.ho] (0, 0) _ (hS.1.1.heap 0 rfl) Tryz.underlying23 rfl (by kernel_rfl) ⟨rfl, Below.refl _ _⟩
    simp only [act_norm]
    refine wpAnyE_take 2 (v := .agg #[.int .i64 p.mn, .int .i64 p.mx, .int .i64 p.tg, .int .i64 p.tl, .int .i64 p.wi, .int .i64 p.ho]) rfl (by kernel_rfl) (by kernel_rfl) (by kernel_rfl) (fun _ _ _ h => h) hst (EffB.run rfl rfl (fun wd hS => ?_)) (.inl (by kernel_rfl)) ?_
    · exact wp_load_row 23 _ rfl (w.heap.size) rfl 23 #[.int .i64 p.mn, .int .i64 p.mx, .int .i64 p.tg, .int .i64 p.tl, .int .i64 p.wi, .int .i64 p.ho] (0, 0) _ (hS.1.1.heap 0 rfl) Tryz.underlying23 rfl (by kernel_rfl) ⟨rfl, Below.refl _ _⟩
    simp only [act_norm]
    refine wpAnyE_take 3 rfl (by kernel_rfl) (by kernel_rfl) (by kernel_rfl) (fun _ _ _ h => h) hst (EffB.pure rfl (fun _ => rfl)) (.inr (EffB.pure rfl (fun _ => rfl))) ?_
    simp only [act_norm]
    refine wpAnyE_take 4 rfl (by kernel_rfl) (by kernel_rfl) (by kernel_rfl) (fun _ _ _ h => h) hst (EffB.pure rfl (fun _ => rfl)) (.inr (EffB.pure rfl (fun _ => rfl))) ?_
    simp only [act_norm]
    refine wpAnyE_take 5 rfl (by kernel_rfl) (by kernel_rfl) (by kernel_rfl) (fun _ _ _ h => h) hst (EffB.pure rfl (fun _ => rfl)) (.inr (EffB.pure rfl (fun _ => rfl))) ?_
    simp only [act_norm]
    refine wpAnyE_one 6 rfl (by kernel_rfl) rfl (fun wd hS => ?_)
    go_wp2_with fail
    (with_reducible refine (F4.out _ hS.1.2).mono ?_)
    rintro e w5 ⟨u2, d2, rfl, hA, hb5⟩
    have hst2 := stab_and hst (stab_advs (q := u2) (l := r))
    refine ⟨_, ⟨hst _ _ hS hb5, hA⟩, hst2, (by first | exact fun _ h => h.1 | exact .inr fun _ h => h.1), ?_⟩
    try simp only [act_norm]
    clear hA hb5 hS hst M3 A3 c0 c1 c2
    have hst := hst2
    refine wpAnyE_take 7 (v := .agg #[.slice u2 m d2, .int .i64 0, .int .i64 T, .int .i64 a, .int .i64 b, .int .i64 x, .int .i64 y]) rfl (by kernel_rfl) (by kernel_rfl) (by kernel_rfl) (fun _ _ _ h => h) hst (EffB.run rfl rfl (fun wd hS => ?_)) (.inl (by kernel_rfl)) ?_
    · (go_wp2_with fail; (with_reducible refine (F5.out u2 d2 wd hS.2).mono ?_); rintro e w'' ⟨rfl, hb⟩; exact ⟨rfl, hb⟩)
    simp only [act_norm]
    refine wpAnyE_take 8 (v := .bool true) rfl (by kernel_rfl) (by kernel_rfl) (by kernel_rfl) (fun _ _ _ h => h) hst (EffB.run rfl rfl (fun wd hS => ?_)) (.inl (by kernel_rfl)) ?_
    · (go_wp2_with fail; (with_reducible refine (F6.out u u2 d d2 wd hS.1.2 hS.2).mono ?_); rintro e w'' ⟨rfl, hb⟩; exact ⟨rfl, hb⟩)
    simp only [act_norm]
    refine wpAnyE_take 9 rfl (by kernel_rfl) (by kernel_rfl) (by kernel_rfl) (fun _ _ _ h => h) hst (EffB.pure rfl (fun _ => rfl)) (.inr (EffB.pure rfl (fun _ => rfl))) ?_
    simp only [act_norm]
    refine wpAnyE_done (by kernel_rfl) (fun wd hS => ?_) _
    have MF := Lib.hid hS.1.1.1
    clear hS hst hst2
    go_wp2
    go_ret
    exact ⟨rfl, MF.out.below⟩
  · have bm : (p.mn == p.mx) = false := beq_eq_false_iff_ne.2 hm
    clear hm hC
    go_enter Tryz.func3, Tryz.ntmps3
    go_wp2_with fail
    (with_reducible refine (awake44 _).mono ?_)
    rintro e w1 ⟨rfl, hb1⟩
    have M1 := Lib.hid (((Mem.start w).alloc (.cells #[.int .i64 p.mn, .int .i64 p.mx, .int .i64 p.tg, .int .i64 p.tl, .int .i64 p.wi, .int .i64 p.ho] 23)).call hb1)
    have K0 := Lib.hid (M1.out.heap 0 rfl)
    clear hb1
    go_wp2_with ((with_reducible refine wpList_load_rowAs rfl 23 _ rfl (w.heap.size) ?_ 23 #[.int .i64 p.mn, .int .i64 p.mx, .int .i64 p.tg, .int .i64 p.tl, .int .i64 p.wi, .int .i64 p.ho] (0, 0) _ 6 ?_ Tryz.underlying23 rfl (by kernel_rfl) ?_ ?_); exact rfl; exact K0.out; exact rfl)
    (with_reducible refine (HR.out _ (HS.out.below M1.out.below)).mono ?_)
    rintro e w2 ⟨u, d, rfl, hA, hb2⟩
    have M2 := Lib.hid ((M1.out.call hb2).alloc (.cells #[.slice u m d, .int .i64 C, .int .i64 T, .int .i64 a, .int .i64 b, .int .i64 x, .int .i64 y] 28))
    have A2 := Lib.hid (hA.below (below1 w2 (.cells #[.slice u m d, .int .i64 C, .int .i64 T, .int .i64 a, .int .i64 b, .int .i64 x, .int .i64 y] 28)))
    have K2 := Lib.hid (M2.out.heap 0 rfl)
    clear hb2 M1 K0 hA
    go_wp2_with (first | ((with_reducible refine wpList_store_rowAs rfl 28 _ _ rfl (w2.heap.size) #[.slice u m d, .int .i64 C, .int .i64 T, .int .i64 a, .int .i64 b, .int .i64 x, .int .i64 y] ?_ ?_ 28 #[.slice none 0 0, .int .i64 0, .int .i64 0, .int .i64 0, .int .i64 0, .int .i64 0, .int .i64 0] 7 ?_ (by kernel_rfl) rfl rfl (by simp [Value.oneCell']) ?_); exact rfl; exact rfl; exact (heap_alloc_at _ _ _ rfl); (first | rw [row_1_0] | rw [row_2_0] | rw [row_2_1] | rw [row_3_0] | rw [row_3_1] | rw [row_3_2] | rw [row_4_0] | rw [row_4_1] | rw [row_4_2] | rw [row_4_3] | rw [row_5_0] | rw [row_5_1] | rw [row_5_2] | rw [row_5_3] | rw [row_5_4] | rw [row_6_0] | rw [row_6_1] | rw [row_6_2] | rw [row_6_3] | rw [row_6_4] | rw [row_6_5] | simp only [setRow_alloc_past, setRow_alloc_at, World.size_alloc, Nat.add_assoc, Nat.reduceAdd, Nat.lt_add_right_iff_pos, Nat.add_lt_add_iff_left, Nat.reduceLT, Nat.zero_lt_succ, Nat.lt_add_one])) | ((with_reducible refine wpList_load_rowAs rfl 23 _ rfl (w.heap.size) ?_ 23 #[.int .i64 p.mn, .int .i64 p.mx, .int .i64 p.tg, .int .i64 p.tl, .int .i64 p.wi, .int .i64 p.ho] (0, 0) _ 6 ?_ Tryz.underlying23 rfl (by kernel_rfl) ?_ ?_); exact rfl; exact K2.out; exact rfl))
    (with_reducible refine (HK.out _).mono ?_)
    rintro e w3 ⟨rfl, hb3⟩
    have A3 := Lib.hid (A2.out.below (hb3.mono (by simp)))
    have M3 := Lib.hid (M2.out.call hb3)
    have c0 := M3.out.cell 0 0 rfl rfl
    have c1 := M3.out.cell 0 1 rfl rfl
    have c2 := M3.out.cell 1 1 rfl rfl
    clear hb3 M2 K2 A2
    go_wp2_with fail
    have hst := stab_and (stab_and (stab_mem (w := w) (bs := [(w.heap.size, .cells #[.int .i64 p.mn, .int .i64 p.mx, .int .i64 p.tg, .int .i64 p.tl, .int .i64 p.wi, .int .i64 p.ho] 23), (w2.heap.size, .cells #[.slice u m d, .int .i64 C, .int .i64 T, .int .i64 a, .int .i64 b, .int .i64 x, .int .i64 y] 28)])) (stab_samps (q := q) (l := l))) (stab_advs (q := u) (l := r))
    refine wp_region_E mixed [] hst ⟨⟨M3.out.drewN 1, HS.out.below (M3.out.drewN 1).below⟩, A3.out.below (below_drew (Below.refl _ _))⟩ ?_
    refine wpAnyE_take 0 (v := .agg #[.slice u m d, .int .i64 C, .int .i64 T, .int .i64 a, .int .i64 b, .int .i64 x, .int .i64 y]) rfl (by kernel_rfl) (by kernel_rfl) (by kernel_rfl) (fun _ _ _ h => h) hst (EffB.run rfl rfl (fun wd hS => ?_)) (.inl (by kernel_rfl)) ?_
    · exact wp_load_row 28 _ rfl (w2.heap.size) rfl 28 #[.slice u m d, .int .i64 C, .int .i64 T, .int .i64 a, .int .i64 b, .int .i64 x, .int .i64 y] (0, 0) _ (hS.1.1.heap 1 rfl) Tryz.underlying28 rfl (by kernel_rfl) ⟨rfl, Below.refl _ _⟩
    simp only [act_norm]
    refine wpAnyE_take 1 (v := .agg #[.int .i64 p.mn, .int .i64 p.mx, .int .i64 p.tg, .int .i64 p.tl, .int .i64 p.wi, .int .i64 p.ho]) rfl (by kernel_rfl) (by kernel_rfl) (by kernel_rfl) (fun _ _ _ h => h) hst (EffB.run rfl rfl (fun wd hS => ?_)) (.inl (by kernel_rfl)) ?_
    · exact wp_load_row 23 _ rfl (w.heap.size) rfl 23 #[.int .i64 p.mn, .int .i64 p.mx, .int .i64 p.tg, .int .i64 p.tl, .int .i64 p.wi, .int .i64 p.ho] (0, 0) _ (hS.1.1.heap 0 rfl) Tryz.underlying23 rfl (by kernel_rfl) ⟨rfl, Below.refl _ _⟩
    simp only [act_norm]
    refine wpAnyE_take 2 (v := .agg #[.int .i64 p.mn, .int .i64 p.mx, .int .i64 p.tg, .int .i64 p.tl, .int .i64 p.wi, .int .i64 p.ho]) rfl (by kernel_rfl) (by kernel_rfl) (by kernel_rfl) (fun _ _ _ h => h) hst (EffB.run rfl rfl (fun wd hS => ?_)) (.inl (by kernel_rfl)) ?_
    · exact wp_load_row 23 _ rfl (w.heap.size) rfl 23 #[.int .i64 p.mn, .int .i64 p.mx, .int .i64 p.tg, .int .i64 p.tl, .int .i64 p.wi, .int .i64 p.ho] (0, 0) _ (hS.1.1.heap 0 rfl) Tryz.underlying23 rfl (by kernel_rfl) ⟨rfl, Below.refl _ _⟩
    simp only [act_norm]
    refine wpAnyE_take 3 rfl (by kernel_rfl) (by kernel_rfl) (by kernel_rfl) (fun _ _ _ h => h) hst (EffB.pure rfl (fun _ => rfl)) (.inr (EffB.pure rfl (fun _ => rfl))) ?_
    simp only [act_norm]
    refine wpAnyE_take 4 rfl (by kernel_rfl) (by kernel_rfl) (by kernel_rfl) (fun _ _ _ h => h) hst (EffB.pure rfl (fun _ => rfl)) (.inr (EffB.pure rfl (fun _ => rfl))) ?_
    simp only [act_norm]
    refine wpAnyE_take 5 rfl (by kernel_rfl) (by kernel_rfl) (by kernel_rfl) (fun _ _ _ h => h) hst (EffB.pure rfl (fun _ => rfl)) (.inr (EffB.pure rfl (fun _ => rfl))) ?_
    simp only [act_norm]
    refine wpAnyE_one 6 rfl (by kernel_rfl) rfl (fun wd hS => ?_)
    go_wp2_with fail
    (with_reducible refine (F4.out _ hS.1.2).mono ?_)
    rintro e w5 ⟨u2, d2, rfl, hA, hb5⟩
    have hst2 := stab_and hst (stab_advs (q := u2) (l := r))
    refine ⟨_, ⟨hst _ _ hS hb5, hA⟩, hst2, (by first | exact fun _ h => h.1 | exact .inr fun _ h => h.1), ?_⟩
    try simp only [act_norm]
    clear hA hb5 hS hst M3 A3 c0 c1 c2
    have hst := hst2
    refine wpAnyE_take 7 (v := .agg #[.slice u2 m d2, .int .i64 C, .int .i64 T, .int .i64 a, .int .i64 b, .int .i64 x, .int .i64 y]) rfl (by kernel_rfl) (by kernel_rfl) (by kernel_rfl) (fun _ _ _ h => h) hst (EffB.run rfl rfl (fun wd hS => ?_)) (.inl (by kernel_rfl)) ?_
    · (go_wp2_with fail; (with_reducible refine (F5.out u2 d2 wd hS.2).mono ?_); rintro e w'' ⟨rfl, hb⟩; exact ⟨rfl, hb⟩)
    simp only [act_norm]
    refine wpAnyE_take 8 (v := .bool true) rfl (by kernel_rfl) (by kernel_rfl) (by kernel_rfl) (fun _ _ _ h => h) hst (EffB.run rfl rfl (fun wd hS => ?_)) (.inl (by kernel_rfl)) ?_
    · (go_wp2_with fail; (with_reducible refine (F6.out u u2 d d2 wd hS.1.2 hS.2).mono ?_); rintro e w'' ⟨rfl, hb⟩; exact ⟨rfl, hb⟩)
    simp only [act_norm]
    refine wpAnyE_take 9 rfl (by kernel_rfl) (by kernel_rfl) (by kernel_rfl) (fun _ _ _ h => h) hst (EffB.pure rfl (fun _ => rfl)) (.inr (EffB.pure rfl (fun _ => rfl))) ?_
    simp only [act_norm]
    refine wpAnyE_done (by kernel_rfl) (fun wd hS => ?_) _
    have MF := Lib.hid hS.1.1.1
    clear hS hst hst2
    go_wp2
    go_ret
    exact ⟨rfl, MF.out.below⟩

set_option maxHeartbeats 1000000 in
set_option maxRecDepth 100000 in
theorem trialRuns_walk (p : Pol) (hp : p.In) (q : Option Addr) (cap : Nat) (l : List Samp) (hl : ∀ a ∈ l, a.In) (hb : l.length ≤ 9223372036854775807) (sa ro : Int) (w : World) (hs : Samps w q l) :
    Calls Tryz.prog 3 #[.agg #[.int .i64 p.mn, .int .i64 p.mx, .int .i64 p.tg, .int .i64 p.tl, .int .i64 p.wi, .int .i64 p.ho], .slice q l.length cap, .int .i64 sa, .int .i64 ro] w fun e w' => e = .returned (.bool true) ∧ Below w.heap.size w w' := by
  by_cases h20 : l.length ≤ 20
  · cases hok : p.ok with
    | false => exact trialRuns_pol p hok q cap l.length h20 sa ro w
    | true =>
      by_cases hbad : sa < 1 ∨ 256 < sa ∨ ro < 1 ∨ 64 < ro
      · exact trialRuns_arg p hok q cap l.length h20 sa ro hbad w
      · exact trialRuns_fine p hp hok q cap l hl h20 sa ro (by omega) (by omega) (by omega) (by omega) w hs
  · obtain ⟨n, en⟩ : ∃ n, n = l.length := ⟨_, rfl⟩
    have d1 : decide ((20 : Int) < n) = true := decide_eq_true (by omega)
    rw [← en] at hb ⊢
    clear en hs hl h20
    go_enter Tryz.func3, Tryz.ntmps3
    go_wp2_with fail
    (with_reducible refine (awake44 _).mono ?_)
    rintro e w1 ⟨rfl, hb1⟩
    have M1 := Lib.hid (((Mem.start w).alloc (.cells #[.int .i64 p.mn, .int .i64 p.mx, .int .i64 p.tg, .int .i64 p.tl, .int .i64 p.wi, .int .i64 p.ho] 23)).call hb1)
    have K0 := Lib.hid (M1.out.heap 0 rfl)
    clear hb1
    go_wp2
    go_ret
    exact ⟨rfl, M1.out.below⟩
end Go.Proofs.YtildjnibdappnaaGreat
