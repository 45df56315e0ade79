/- Layer 16: the reason; the mean, by the reference. -/
import Derived.Test.YtildjnibdappnaaGreatJDec
namespace Go.Proofs.YtildjnibdappnaaGreat
open Go.ChangeShapes Go.WideShapes Go.ChangeAt Go.RowKit

theorem stat_mean_nil {v : List Int} (h : v.length = 0) : (Stat.of v).mean = 0 := by rw [Stat.of_nil h]
/-- The mean is the least number that, so many times, is no less than the sum. -/
theorem Dec.mean_least (v : List Int) (hv : ∀ n ∈ v, I64 n) : ∃ q : Nat, (Stat.of v).mean = q ∧ q ≤ 9223372036854775807 ∧ ∀ m : Nat, decide (Bits.total v ≤ m * v.length) = decide (q ≤ m) := by
  by_cases h0 : v.length = 0
  · refine ⟨0, by rw [stat_mean_nil h0]; rfl, by omega, fun m => ?_⟩
    have : v = [] := by simpa using h0
    subst this
    simp [Bits.total]
  · obtain ⟨q, hq, hq2, hup, _⟩ := Wide.mean_is v hv (by omega)
    refine ⟨q, by rw [Stat.of_some h0]; exact hq, hq2, fun m => ?_⟩
    unfold Bits.up at hup
    simp only [decide_eq_true_eq] at hup
    obtain ⟨u1, u2⟩ := hup
    by_cases hm : q ≤ m
    · rw [decide_eq_true hm, decide_eq_true]
      exact Nat.le_trans u1 (Nat.mul_le_mul_right _ hm)
    · rw [decide_eq_false hm, decide_eq_false]
      intro h
      rcases u2 with u2 | u2
      · omega
      · have : m * v.length ≤ (q - 1) * v.length := Nat.mul_le_mul_right _ (by omega)
        omega

theorem Bits.cmp_ge (a b : Nat) : decide (0 ≤ Bits.cmp a b) = decide (b ≤ a) := by
  unfold Bits.cmp
  split
  · rw [decide_eq_false (by omega), decide_eq_false (by omega)]
  · split
    · rw [decide_eq_true (by omega), decide_eq_true (by omega)]
    · rw [decide_eq_true (by omega), decide_eq_true (by omega)]

set_option maxHeartbeats 1000000 in
set_option maxRecDepth 100000 in
theorem ref16_atLeast (p : Option Addr) (cap : Nat) (v : List Int) (hv : ∀ n ∈ v, I64 n) (m : Nat) (hm : m ≤ 9223372036854775807) (hb : v.length ≤ 100000) (w : World) (hs : Ints .i64 w p v) :
    Calls Tryz.prog 83 #[.slice p v.length cap, .int .i64 m] w fun e w' => e = .returned (.bool (decide (Bits.total v ≤ m * v.length))) ∧ Below w.heap.size w w' := by
  by_cases h0 : v.length = 0
  · have : v = [] := by simpa using h0
    subst this
    have HE : Hid (decide (Bits.total [] ≤ m * ([] : List Int).length) = true) := by show _ = _; simp [Bits.total]
    show Calls Tryz.prog 83 #[.slice p 0 cap, .int .i64 m] w _
    clear hs hb hv h0
    go_enter Tryz.func83, Tryz.ntmps83
    go_wp2
    go_ret
    exact ⟨ret_bool HE.out.symm, Below.refl _ _⟩
  · have h1 := fun W : World => fun h : Ints .i64 W p v => ref_total p cap v W h hv (by omega)
    have h2 := ref_numMul m v.length (by omega) (by omega)
    have h3 := ref_numCmp (m * v.length) (Bits.total v) (Bits.mul_lt (by omega) (by omega)) (Bits.total_lt v hv (by omega))
    have hc := Bits.cmp_ge (m * v.length) (Bits.total v)
    obtain ⟨r, er⟩ : ∃ r, r = decide (Bits.total v ≤ m * v.length) := ⟨_, rfl⟩
    rw [← er] at hc ⊢
    obtain ⟨t, et⟩ : ∃ t, t = Bits.total v := ⟨_, rfl⟩
    simp only [← et] at h1
    rw [← et] at h3 hc
    obtain ⟨n, hn⟩ : ∃ n, n = v.length := ⟨_, rfl⟩
    rw [← hn] at h0 hb h2 h3 hc
    simp only [← hn] at h1 ⊢
    obtain ⟨x, ex⟩ : ∃ x, x = m * n := ⟨_, rfl⟩
    rw [← ex] at h2 h3 hc
    obtain ⟨c, ec⟩ : ∃ c, c = Bits.cmp x t := ⟨_, rfl⟩
    rw [← ec] at h3 hc
    have HC := Lib.hid hc
    have H1 := Lib.hid h1
    have H2 := Lib.hid h2
    have HS := Lib.hid hs
    have d0 : ((n : Int) == 0) = false := beq_eq_false_iff_ne.2 (by omega)
    clear er et hn ex ec hs h1 h2 hc hv
    go_enter Tryz.func83, Tryz.ntmps83
    go_wp2_with fail
    (with_reducible refine (H2.out _).mono ?_)
    rintro e w1 ⟨rfl, hb1⟩
    have hst : Stab (fun w' => (Below w.heap.size w w' ∧ w'.heap[w1.heap.size]? = some (.cells (Bits.num x) 129 (0, 0))) ∧ Ints .i64 w' p v) :=
      stab_and (stab_and (stab_below (Nat.le_refl _)) (stab_heap _ _)) (fun _ _ h hb => Sl.below h hb)
    have M1 := Lib.hid (((Mem.start w).call hb1).alloc (.cells (Bits.num x) 129))
    have HS1 : Hid (Ints .i64 (w1.alloc (.cells (Bits.num x) 129)) p v) := HS.out.below M1.out.below
    clear hb1
    go_wp2_with (first | (with_reducible refine wpList_alloc_as rfl _ rfl _ (numZero _) ?_) | ((with_reducible refine wpList_store_rowAs rfl 129 _ _ rfl (w1.heap.size) (Bits.num x) ?_ ?_ 129 (Bits.num 0) 128 ?_ numInfo (Bits.num_size _) (Bits.num_size _) (num_oneCell _) ?_); exact rfl; exact rfl; exact (heap_alloc_at _ _ _ rfl)))
    rw [setRow_alloc_at _ _ _ _ _ rfl]
    refine wp_region_E mixed [] hst ⟨⟨below_drew M1.out.below, M1.out.heap 0 rfl⟩, HS1.out⟩ ?_
    refine wpAnyE_take 0 (v := .agg (Bits.num x)) rfl (by kernel_rfl) (by kernel_rfl) (by kernel_rfl) (fun _ _ _ h => h) hst (EffB.run rfl rfl (fun wd hS => ?_)) (.inl (by kernel_rfl)) ?_
    · exact wp_load_row 129 _ rfl w1.heap.size rfl 129 (Bits.num x) (0, 0) _ hS.1.2 Tryz.underlying129 rfl (by rw [Bits.num_size]; exact numInfo) ⟨rfl, Below.refl _ _⟩
    simp only [act_norm]
    refine wpAnyE_take 1 rfl (by kernel_rfl) (by kernel_rfl) (by kernel_rfl) (fun _ _ _ h => h) hst (EffB.pure rfl (fun _ => rfl)) (.inr (EffB.pure rfl (fun _ => rfl))) ?_
    simp only [act_norm]
    refine wpAnyE_take 2 (v := .agg (Bits.num t)) rfl (by kernel_rfl) (by kernel_rfl) (by kernel_rfl) (fun _ _ _ h => h) hst (EffB.run rfl rfl (fun wd hS => ?_)) (.inl (by kernel_rfl)) ?_
    · (go_wp2_with fail; (with_reducible refine (H1.out wd hS.2).mono ?_); rintro e w'' ⟨rfl, hb⟩; exact ⟨rfl, hb⟩)
    simp only [act_norm]
    refine wpAnyE_take 3 (v := .int .i64 c) rfl (by kernel_rfl) (by kernel_rfl) (by kernel_rfl) (fun _ _ _ h => h) hst (EffB.run rfl rfl (fun wd hS => ?_)) (.inl (by kernel_rfl)) ?_
    · (go_wp2_with fail; (with_reducible refine (h3 wd).mono ?_); rintro e w'' ⟨rfl, hb⟩; exact ⟨rfl, hb⟩)
    simp only [act_norm]
    refine wpAnyE_take 4 (v := .bool (decide (0 ≤ c))) rfl (by kernel_rfl) (by kernel_rfl) (by kernel_rfl) (fun _ _ _ h => h) hst (EffB.run rfl rfl (fun wd hS => ?_)) (.inr (EffB.run rfl rfl (fun wd hS => ?_))) ?_
    · (go_wp2; exact ⟨rfl, Below.refl _ _⟩)
    · (go_wp2; exact ⟨rfl, Below.refl _ _⟩)
    simp only [act_norm]
    refine wpAnyE_take 5 rfl (by kernel_rfl) (by kernel_rfl) (by kernel_rfl) (fun _ _ _ h => h) hst (EffB.pure rfl (fun _ => rfl)) (.inr (EffB.pure rfl (fun _ => rfl))) ?_
    simp only [act_norm]
    refine wpAnyE_done (by kernel_rfl) (fun wd hS => ?_) _
    go_wp2
    go_ret
    exact ⟨ret_bool HC.out, hS.1.1⟩

set_option maxHeartbeats 1000000 in
set_option maxRecDepth 100000 in
theorem ref16_mean (p : Option Addr) (cap : Nat) (l : List Samp) (hin : ∀ a ∈ l, a.In) (hb : l.length ≤ 100000) (w : World) (hs : Samps w p l) :
    Calls Tryz.prog 53 #[.slice p l.length cap] w fun e w' => e = .returned (.int .i64 (Stat.of (Samp.vals l)).mean) ∧ Below w.heap.size w w' := by
  have hvl := Samp.vals_len l
  have hv64 := Samp.vals_I64 l hin
  have h1 := fun W : World => fun h : Samps W p l => ref09_values p cap l hb W h
  obtain ⟨v, ev⟩ : ∃ v, v = Samp.vals l := ⟨_, rfl⟩
  rw [← ev] at hvl hv64 ⊢
  simp only [← ev] at h1
  have h2 := fun (q : Option Addr) (c : Nat) (m : Nat) (hm : m ≤ 9223372036854775807) (W : World) (h : Ints .i64 W q v) => ref16_atLeast q c v hv64 m hm (by omega) W h
  obtain ⟨q, eq, lq, hq⟩ := Dec.mean_least v hv64
  simp only [hq] at h2
  simp only [hvl] at h2
  rw [eq]
  have H1 := Lib.hid (h1 w hs)
  have H2 := Lib.hid h2
  have HVL := Lib.hid hvl
  obtain ⟨n, hn⟩ : ∃ n, n = l.length := ⟨_, rfl⟩
  rw [← hn] at H1 HVL hb ⊢
  simp only [← hn] at H2
  clear h1 h2 hvl hq eq ev hn hs hv64
  go_enter Tryz.func53, Tryz.ntmps53
  go_wp2_with fail
  (with_reducible refine H1.out.mono ?_)
  rintro e w1 ⟨u, rfl, hO, hB⟩
  rw [← HVL.out] at hO
  obtain ⟨p2, c2, rfl, _, hq⟩ := ints_of_owns hO
  rw [HVL.out]
  have HQ := Lib.hid hq
  have HB := Lib.hid hB
  clear hO hB hq
  go_wp2
  go_loopw [4, 5] (fun a b wr => ∃ x y : Nat, a = .int .i64 x ∧ b = .int .i64 y ∧ x ≤ q ∧ q ≤ y ∧ y ≤ 9223372036854775807 ∧ Below w1.heap.size w1 wr) (fun a b _ => (intOf b).toNat - (intOf a).toNat)
  case atStart => exact ⟨0, 9223372036854775807, rfl, rfl, by omega, by omega, by omega, Below.refl _ _⟩
  case round =>
    obtain ⟨x, y, rfl, rfl, hx, hy, hy2, hB⟩ := hrel
    have HBr := Lib.hid hB
    clear hB
    by_cases hlt : x < y
    · obtain ⟨m, em⟩ : ∃ m, m = x + (y - x) / 2 := ⟨_, rfl⟩
      have em2 : ((x : Int) + ((y : Int) - x) / 2) = m := by omega
      have hh := H2.out p2 c2 m (by omega) wr (HQ.out.below HBr.out)
      have HM : Hid (x ≤ m ∧ m < y) := ⟨by omega, by omega⟩
      clear em
      by_cases hqm : q ≤ m
      · rw [decide_eq_true hqm] at hh
        have HH := Lib.hid hh
        clear hh
        go_wp2_with fail
        (with_reducible refine HH.out.mono ?_)
        rintro e w2 ⟨rfl, hb2⟩
        have HB2 := Lib.hid (HBr.out.trans (hb2.mono HBr.out.size))
        clear hb2
        go_wp2
        exact ⟨⟨x, m, rfl, rfl, hx, hqm, by have := HM.out; omega, HB2.out⟩, by have := HM.out; simp [intOf]; omega⟩
      · rw [decide_eq_false hqm] at hh
        have HH := Lib.hid hh
        have hm3 : m < 9223372036854775807 := by omega
        clear hh
        go_wp2_with fail
        (with_reducible refine HH.out.mono ?_)
        rintro e w2 ⟨rfl, hb2⟩
        have HB2 := Lib.hid (HBr.out.trans (hb2.mono HBr.out.size))
        clear hb2
        go_wp2
        exact ⟨⟨m + 1, y, by go_num, rfl, by omega, hy, hy2, HB2.out⟩, by have := HM.out; simp [intOf]; omega⟩
    · obtain rfl : x = q := by omega
      go_wp2
      go_ret
      exact ⟨rfl, HB.out.trans (HBr.out.mono HB.out.size)⟩

set_option maxHeartbeats 1000000 in
set_option maxRecDepth 100000 in
theorem decide_why (p : Pol) (hp : p.In) (a : Adv) (ha : I64 a.load) (now : Int) (held : Bool) (w : World) :
    Calls Tryz.prog 79 #[.agg #[.int .i64 p.mn, .int .i64 p.mx, .int .i64 p.tg, .int .i64 p.tl, .int .i64 p.wi, .int .i64 p.ho], .agg #[.int .i64 a.tick, .int .i64 a.load, .int .i64 a.want, .int .i64 a.repl, .int .i64 a.why], .int .i64 now, .bool held] w fun e w' => e = .returned (.int .i64 (Dec.why p held (p.open' a.load now) now a.repl)) ∧ Below w.heap.size w w' := by
  have hn := control_near p hp a.load now ha
  have hw := control_want p a.load ha
  have hd : ∀ o, Dec.why p held o now a.repl = if held = true then 4 else if p.mx < o then 6 else if o < p.mn then 5 else if now < a.repl then 2 else if a.repl < now then 3 else 1 := fun _ => rfl
  have ho : p.open' a.load now = if p.near a.load now = true then now else p.want a.load := rfl
  obtain ⟨o, eo⟩ : ∃ o, o = p.open' a.load now := ⟨_, rfl⟩
  rw [← eo] at ho ⊢
  have hd := hd o
  obtain ⟨r, er⟩ : ∃ r, r = Dec.why p held o now a.repl := ⟨_, rfl⟩
  rw [← er] at hd ⊢
  obtain ⟨wt, ew⟩ : ∃ r, r = p.want a.load := ⟨_, rfl⟩
  rw [← ew] at hw ho
  obtain ⟨nr, en⟩ : ∃ r, r = p.near a.load now := ⟨_, rfl⟩
  rw [← en] at hn ho
  obtain ⟨tick, load, want, repl, why⟩ := a
  simp only at hn hw ho hd
  have HN := Lib.hid hn
  have HW := Lib.hid hw
  have HD := Lib.hid hd
  have HO := Lib.hid ho
  clear hn hw hd ho eo er ew en ha
  have hcase : (held = true ∧ r = 4) ∨ (held = false ∧ p.mx < o ∧ r = 6) ∨ (held = false ∧ ¬ p.mx < o ∧ o < p.mn ∧ r = 5) ∨ (held = false ∧ ¬ p.mx < o ∧ ¬ o < p.mn ∧ now < repl ∧ r = 2) ∨ (held = false ∧ ¬ p.mx < o ∧ ¬ o < p.mn ∧ ¬ now < repl ∧ repl < now ∧ r = 3) ∨ (held = false ∧ ¬ p.mx < o ∧ ¬ o < p.mn ∧ ¬ now < repl ∧ ¬ repl < now ∧ r = 1) := by
    have h := HD.out
    cases held with
    | true => rw [if_pos rfl] at h; exact .inl ⟨rfl, h⟩
    | false =>
      rw [if_neg (by simp)] at h
      by_cases t1 : p.mx < o
      · rw [if_pos t1] at h; exact .inr (.inl ⟨rfl, t1, h⟩)
      rw [if_neg t1] at h
      by_cases t2 : o < p.mn
      · rw [if_pos t2] at h; exact .inr (.inr (.inl ⟨rfl, t1, t2, h⟩))
      rw [if_neg t2] at h
      by_cases t3 : now < repl
      · rw [if_pos t3] at h; exact .inr (.inr (.inr (.inl ⟨rfl, t1, t2, t3, h⟩)))
      rw [if_neg t3] at h
      by_cases t4 : repl < now
      · rw [if_pos t4] at h; exact .inr (.inr (.inr (.inr (.inl ⟨rfl, t1, t2, t3, t4, h⟩))))
      rw [if_neg t4] at h
      exact .inr (.inr (.inr (.inr (.inr ⟨rfl, t1, t2, t3, t4, h⟩))))
  clear HD
  cases nr with
  | true =>
    have ho := HO.out
    rw [if_pos rfl] at ho
    subst ho
    rcases hcase with ⟨rfl, rfl⟩ | ⟨rfl, t1, rfl⟩ | ⟨rfl, t1, t2, rfl⟩ | ⟨rfl, t1, t2, t3, rfl⟩ | ⟨rfl, t1, t2, t3, t4, rfl⟩ | ⟨rfl, t1, t2, t3, t4, rfl⟩
    all_goals
      go_enter Tryz.func79, Tryz.ntmps79
      go_wp2_with (first | ((with_reducible refine wpList_load_rowAs rfl 23 _ rfl (w.heap.size) ?_ 23 #[.int .i64 p.mn, .int .i64 p.mx, .int .i64 p.tg, .int .i64 p.tl, .int .i64 p.wi, .int .i64 p.ho] (0, 0) _ 6 ?_ Tryz.underlying23 rfl (by kernel_rfl) ?_ ?_); exact rfl; exact (by first | (with_reducible exact heap_1_0 _ _) | (with_reducible exact heap_2_0 _ _ _) | (with_reducible exact heap_2_1 _ _ _) | (with_reducible exact heap_3_0 _ _ _ _) | (with_reducible exact heap_3_1 _ _ _ _) | (with_reducible exact heap_3_2 _ _ _ _) | (with_reducible exact heap_4_0 _ _ _ _ _) | (with_reducible exact heap_4_1 _ _ _ _ _) | (with_reducible exact heap_4_2 _ _ _ _ _) | (with_reducible exact heap_4_3 _ _ _ _ _) | (with_reducible exact heap_5_0 _ _ _ _ _ _) | (with_reducible exact heap_5_1 _ _ _ _ _ _) | (with_reducible exact heap_5_2 _ _ _ _ _ _) | (with_reducible exact heap_5_3 _ _ _ _ _ _) | (with_reducible exact heap_5_4 _ _ _ _ _ _) | (with_reducible exact heap_6_0 _ _ _ _ _ _ _) | (with_reducible exact heap_6_1 _ _ _ _ _ _ _) | (with_reducible exact heap_6_2 _ _ _ _ _ _ _) | (with_reducible exact heap_6_3 _ _ _ _ _ _ _) | (with_reducible exact heap_6_4 _ _ _ _ _ _ _) | (with_reducible exact heap_6_5 _ _ _ _ _ _ _) | simp only [heap_alloc_past, heap_alloc_at, World.size_alloc, Nat.add_assoc, Nat.reduceAdd, Nat.lt_add_right_iff_pos, Nat.add_lt_add_iff_left, Nat.reduceLT, Nat.zero_lt_succ, Nat.lt_add_one]); exact rfl))
      (with_reducible refine (HN.out _).mono ?_)
      rintro e w1 ⟨rfl, hb1⟩
      have M1 := Lib.hid ((((Mem.start w).alloc (.cells #[.int .i64 p.mn, .int .i64 p.mx, .int .i64 p.tg, .int .i64 p.tl, .int .i64 p.wi, .int .i64 p.ho] 23)).allocAs (w.heap.size + 1) (.cells #[.int .i64 tick, .int .i64 load, .int .i64 want, .int .i64 repl, .int .i64 why] 53) (by simp)).call hb1)
      clear hb1
      have c0 := M1.out.cell 0 0 rfl rfl
      have c1 := M1.out.cell 0 1 rfl rfl
      have c2 := M1.out.cell 1 3 rfl rfl
      go_wp2
      go_ret
      exact ⟨rfl, M1.out.below⟩
  | false =>
    have ho := HO.out
    rw [if_neg (by simp)] at ho
    subst ho
    rcases hcase with ⟨rfl, rfl⟩ | ⟨rfl, t1, rfl⟩ | ⟨rfl, t1, t2, rfl⟩ | ⟨rfl, t1, t2, t3, rfl⟩ | ⟨rfl, t1, t2, t3, t4, rfl⟩ | ⟨rfl, t1, t2, t3, t4, rfl⟩
    all_goals
      go_enter Tryz.func79, Tryz.ntmps79
      go_wp2_with (first | ((with_reducible refine wpList_load_rowAs rfl 23 _ rfl (w.heap.size) ?_ 23 #[.int .i64 p.mn, .int .i64 p.mx, .int .i64 p.tg, .int .i64 p.tl, .int .i64 p.wi, .int .i64 p.ho] (0, 0) _ 6 ?_ Tryz.underlying23 rfl (by kernel_rfl) ?_ ?_); exact rfl; exact (by first | (with_reducible exact heap_1_0 _ _) | (with_reducible exact heap_2_0 _ _ _) | (with_reducible exact heap_2_1 _ _ _) | (with_reducible exact heap_3_0 _ _ _ _) | (with_reducible exact heap_3_1 _ _ _ _) | (with_reducible exact heap_3_2 _ _ _ _) | (with_reducible exact heap_4_0 _ _ _ _ _) | (with_reducible exact heap_4_1 _ _ _ _ _) | (with_reducible exact heap_4_2 _ _ _ _ _) | (with_reducible exact heap_4_3 _ _ _ _ _) | (with_reducible exact heap_5_0 _ _ _ _ _ _) | (with_reducible exact heap_5_1 _ _ _ _ _ _) | (with_reducible exact heap_5_2 _ _ _ _ _ _) | (with_reducible exact heap_5_3 _ _ _ _ _ _) | (with_reducible exact heap_5_4 _ _ _ _ _ _) | (with_reducible exact heap_6_0 _ _ _ _ _ _ _) | (with_reducible exact heap_6_1 _ _ _ _ _ _ _) | (with_reducible exact heap_6_2 _ _ _ _ _ _ _) | (with_reducible exact heap_6_3 _ _ _ _ _ _ _) | (with_reducible exact heap_6_4 _ _ _ _ _ _ _) | (with_reducible exact heap_6_5 _ _ _ _ _ _ _) | simp only [heap_alloc_past, heap_alloc_at, World.size_alloc, Nat.add_assoc, Nat.reduceAdd, Nat.lt_add_right_iff_pos, Nat.add_lt_add_iff_left, Nat.reduceLT, Nat.zero_lt_succ, Nat.lt_add_one]); exact rfl))
      (with_reducible refine (HN.out _).mono ?_)
      rintro e w1 ⟨rfl, hb1⟩
      have M1 := Lib.hid ((((Mem.start w).alloc (.cells #[.int .i64 p.mn, .int .i64 p.mx, .int .i64 p.tg, .int .i64 p.tl, .int .i64 p.wi, .int .i64 p.ho] 23)).allocAs (w.heap.size + 1) (.cells #[.int .i64 tick, .int .i64 load, .int .i64 want, .int .i64 repl, .int .i64 why] 53) (by simp)).call hb1)
      clear hb1
      have c3 := M1.out.cell 1 1 rfl rfl
      have K0 := Lib.hid (M1.out.heap 0 rfl)
      go_wp2_with ((with_reducible refine wpList_load_rowAs rfl 23 _ rfl (w.heap.size) ?_ 23 #[.int .i64 p.mn, .int .i64 p.mx, .int .i64 p.tg, .int .i64 p.tl, .int .i64 p.wi, .int .i64 p.ho] (0, 0) _ 6 ?_ Tryz.underlying23 rfl (by kernel_rfl) ?_ ?_); exact rfl; exact K0.out; exact rfl)
      (with_reducible refine (HW.out _).mono ?_)
      rintro e w2 ⟨rfl, hb2⟩
      have M2 := Lib.hid (M1.out.call hb2)
      clear hb2 c3 K0
      have c0 := M2.out.cell 0 0 rfl rfl
      have c1 := M2.out.cell 0 1 rfl rfl
      have c2 := M2.out.cell 1 3 rfl rfl
      go_wp2
      go_ret
      exact ⟨rfl, M2.out.below⟩
end Go.Proofs.YtildjnibdappnaaGreat
