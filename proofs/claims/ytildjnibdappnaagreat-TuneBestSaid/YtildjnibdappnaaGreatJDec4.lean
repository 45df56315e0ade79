/- Layer 16: the decision, by the reference. -/
import Derived.Test.YtildjnibdappnaaGreatJDec3
namespace Go.Proofs.YtildjnibdappnaaGreat
open Go.ChangeShapes Go.WideShapes Go.ChangeAt Go.RowKit

set_option maxHeartbeats 1000000 in
set_option maxRecDepth 100000 in
theorem ref16_of (p : Pol) (hp : p.In) (sp : Option Addr) (sc : Nat) (l : List Samp) (hin : ∀ a ∈ l, a.In) (hb : l.length ≤ 100000) (q : Option Addr) (cap : Nat) (past : List Adv) (hpa : ∀ a ∈ past, a.In) (hb2 : past.length ≤ 100000)
    (o : Adv) (eo : o = Dec.of p l past) (w : World) (hs : Samps w sp l) (hq : Advs w q past) :
    Calls Tryz.prog 30 #[.agg #[.int .i64 p.mn, .int .i64 p.mx, .int .i64 p.tg, .int .i64 p.tl, .int .i64 p.wi, .int .i64 p.ho], .slice sp l.length sc, .slice q past.length cap] w fun e w' => e = .returned (.tuple #[.agg #[.int .i64 o.tick, .int .i64 o.load, .int .i64 o.want, .int .i64 o.repl, .int .i64 o.why], .int .i64 (Dec.err p l)]) ∧ Below w.heap.size w w' := by
  have hc := ref_polRight p
  cases hok : p.ok with
  | false =>
    rw [hok] at hc
    obtain ⟨e1, e2⟩ := Dec.of_bad (l := l) (past := past) hok
    rw [e1] at eo
    rw [e2]
    subst eo
    have HC := Lib.hid hc
    clear hc hok e1 e2 hs hq hin hpa hp
    obtain ⟨n, hn⟩ : ∃ n, n = l.length := ⟨_, rfl⟩
    obtain ⟨m, hm⟩ : ∃ n, n = past.length := ⟨_, rfl⟩
    rw [← hn, ← hm]
    clear hn hm hb hb2
    go_enter Tryz.func30, Tryz.ntmps30
    go_wp2_with ((with_reducible refine wpList_load_rowAs rfl 23 _ rfl (w.heap.size) ?_ 23 #[.int .i64 p.mn, .int .i64 p.mx, .int .i64 p.tg, .int .i64 p.tl, .int .i64 p.wi, .int .i64 p.ho] (0, 0) _ 6 ?_ Tryz.underlying23 rfl (by kernel_rfl) ?_ ?_); exact rfl; exact (by first | (with_reducible exact heap_1_0 _ _) | (with_reducible exact heap_2_0 _ _ _) | (with_reducible exact heap_2_1 _ _ _) | (with_reducible exact heap_3_0 _ _ _ _) | (with_reducible exact heap_3_1 _ _ _ _) | (with_reducible exact heap_3_2 _ _ _ _) | (with_reducible exact heap_4_0 _ _ _ _ _) | (with_reducible exact heap_4_1 _ _ _ _ _) | (with_reducible exact heap_4_2 _ _ _ _ _) | (with_reducible exact heap_4_3 _ _ _ _ _) | (with_reducible exact heap_5_0 _ _ _ _ _ _) | (with_reducible exact heap_5_1 _ _ _ _ _ _) | (with_reducible exact heap_5_2 _ _ _ _ _ _) | (with_reducible exact heap_5_3 _ _ _ _ _ _) | (with_reducible exact heap_5_4 _ _ _ _ _ _) | (with_reducible exact heap_6_0 _ _ _ _ _ _ _) | (with_reducible exact heap_6_1 _ _ _ _ _ _ _) | (with_reducible exact heap_6_2 _ _ _ _ _ _ _) | (with_reducible exact heap_6_3 _ _ _ _ _ _ _) | (with_reducible exact heap_6_4 _ _ _ _ _ _ _) | (with_reducible exact heap_6_5 _ _ _ _ _ _ _) | simp only [heap_alloc_past, heap_alloc_at, World.size_alloc, Nat.add_assoc, Nat.reduceAdd, Nat.lt_add_right_iff_pos, Nat.add_lt_add_iff_left, Nat.reduceLT, Nat.zero_lt_succ, Nat.lt_add_one]); exact rfl)
    (with_reducible refine (HC.out _).mono ?_)
    rintro e w1 ⟨rfl, hb1⟩
    have M1 := Lib.hid ((((Mem.start w).alloc (.cells #[.int .i64 p.mn, .int .i64 p.mx, .int .i64 p.tg, .int .i64 p.tl, .int .i64 p.wi, .int .i64 p.ho] 23)).allocAs (w.heap.size + 1) (.cells #[.int .i64 0, .int .i64 0, .int .i64 0, .int .i64 0, .int .i64 0] 53) (by simp)).call hb1)
    have K1 := Lib.hid (M1.out.heap 1 rfl)
    clear hb1
    go_wp2_with ((with_reducible refine wpList_store_rowAs rfl 53 _ _ rfl ((w.heap.size + 1)) #[.int .i64 0, .int .i64 0, .int .i64 0, .int .i64 0, .int .i64 0] ?_ ?_ 53 #[.int .i64 0, .int .i64 0, .int .i64 0, .int .i64 0, .int .i64 0] 5 ?_ (by kernel_rfl) rfl rfl (by simp [Value.oneCell']) ?_); exact rfl; exact rfl; exact K1.out)
    exact bodyPost_ret (results_row_tmp rfl _ _ (w.heap.size + 1) 53 #[.int .i64 0, .int .i64 0, .int .i64 0, .int .i64 0, .int .i64 0] (0, 0) _ 5 _ rfl rfl ((M1.out.setRow 1 rfl).heap 1 rfl) Tryz.underlying53 rfl advSize rfl) rfl ⟨rfl, (M1.out.setRow 1 rfl).below⟩
  | true =>
    rw [hok] at hc
    by_cases h0 : l.length = 0
    · obtain ⟨e1, e2⟩ := Dec.of_none (past := past) hok h0
      rw [e1] at eo
      rw [e2, h0]
      subst eo
      have HC := Lib.hid hc
      clear hc hok e1 e2 hs hq hin hpa hp h0
      obtain ⟨m, hm⟩ : ∃ n, n = past.length := ⟨_, rfl⟩
      rw [← hm]
      clear hm hb hb2
      go_enter Tryz.func30, Tryz.ntmps30
      go_wp2_with ((with_reducible refine wpList_load_rowAs rfl 23 _ rfl (w.heap.size) ?_ 23 #[.int .i64 p.mn, .int .i64 p.mx, .int .i64 p.tg, .int .i64 p.tl, .int .i64 p.wi, .int .i64 p.ho] (0, 0) _ 6 ?_ Tryz.underlying23 rfl (by kernel_rfl) ?_ ?_); exact rfl; exact (by first | (with_reducible exact heap_1_0 _ _) | (with_reducible exact heap_2_0 _ _ _) | (with_reducible exact heap_2_1 _ _ _) | (with_reducible exact heap_3_0 _ _ _ _) | (with_reducible exact heap_3_1 _ _ _ _) | (with_reducible exact heap_3_2 _ _ _ _) | (with_reducible exact heap_4_0 _ _ _ _ _) | (with_reducible exact heap_4_1 _ _ _ _ _) | (with_reducible exact heap_4_2 _ _ _ _ _) | (with_reducible exact heap_4_3 _ _ _ _ _) | (with_reducible exact heap_5_0 _ _ _ _ _ _) | (with_reducible exact heap_5_1 _ _ _ _ _ _) | (with_reducible exact heap_5_2 _ _ _ _ _ _) | (with_reducible exact heap_5_3 _ _ _ _ _ _) | (with_reducible exact heap_5_4 _ _ _ _ _ _) | (with_reducible exact heap_6_0 _ _ _ _ _ _ _) | (with_reducible exact heap_6_1 _ _ _ _ _ _ _) | (with_reducible exact heap_6_2 _ _ _ _ _ _ _) | (with_reducible exact heap_6_3 _ _ _ _ _ _ _) | (with_reducible exact heap_6_4 _ _ _ _ _ _ _) | (with_reducible exact heap_6_5 _ _ _ _ _ _ _) | simp only [heap_alloc_past, heap_alloc_at, World.size_alloc, Nat.add_assoc, Nat.reduceAdd, Nat.lt_add_right_iff_pos, Nat.add_lt_add_iff_left, Nat.reduceLT, Nat.zero_lt_succ, Nat.lt_add_one]); exact rfl)
      (with_reducible refine (HC.out _).mono ?_)
      rintro e w1 ⟨rfl, hb1⟩
      have M1 := Lib.hid ((((Mem.start w).alloc (.cells #[.int .i64 p.mn, .int .i64 p.mx, .int .i64 p.tg, .int .i64 p.tl, .int .i64 p.wi, .int .i64 p.ho] 23)).allocAs (w.heap.size + 1) (.cells #[.int .i64 0, .int .i64 0, .int .i64 0, .int .i64 0, .int .i64 0] 53) (by simp)).call hb1)
      have K1 := Lib.hid (M1.out.heap 1 rfl)
      clear hb1
      go_wp2_with ((with_reducible refine wpList_store_rowAs rfl 53 _ _ rfl ((w.heap.size + 1)) #[.int .i64 0, .int .i64 0, .int .i64 0, .int .i64 0, .int .i64 0] ?_ ?_ 53 #[.int .i64 0, .int .i64 0, .int .i64 0, .int .i64 0, .int .i64 0] 5 ?_ (by kernel_rfl) rfl rfl (by simp [Value.oneCell']) ?_); exact rfl; exact rfl; exact K1.out)
      exact bodyPost_ret (results_row_tmp rfl _ _ (w.heap.size + 1) 53 #[.int .i64 0, .int .i64 0, .int .i64 0, .int .i64 0, .int .i64 0] (0, 0) _ 5 _ rfl rfl ((M1.out.setRow 1 rfl).heap 1 rfl) Tryz.underlying53 rfl advSize rfl) rfl ⟨rfl, (M1.out.setRow 1 rfl).below⟩
    · obtain ⟨e1, e2⟩ := Dec.of_some (past := past) hok h0
      rw [e1] at eo
      rw [e2]
      have hlat := Dec.latest_I64 l h0 hin
      have hld := Dec.load_I64 p l
      have hcin := Samp.cut_In (Win.from (Dec.latest l) p.wi) (Dec.latest l) l hin
      have hcl := Samp.cut_len (Win.from (Dec.latest l) p.wi) (Dec.latest l) l
      have f1 := fun W : World => fun h : Samps W sp l => ref16_latest sp sc l h0 hb W h
      have f2 := ref09_from (Dec.latest l) p.wi hlat hp.2.2.2.2.1
      have f3 := fun W : World => fun h : Samps W sp l => ref09_cut sp sc l (Win.from (Dec.latest l) p.wi) (Dec.latest l) hb W h
      have f4 := fun (s : Option Addr) (c : Nat) (W : World) (h : Samps W s (Samp.cut (Win.from (Dec.latest l) p.wi) (Dec.latest l) l)) => ref16_mean s c _ hcin (by omega) W h
      have f5 := fun W : World => fun h : Advs W q past => ref16_now p q cap past (by omega) W h
      have f6 := ref13_open p hp (Dec.load p l) (Dec.now p past) hld
      have f7 := ref13_bound p (p.open' (Dec.load p l) (Dec.now p past))
      have f8 := fun W : World => fun h : Advs W q past => ref15_of p hp (Dec.latest l) (Dec.wants p l past) hlat q cap past (by omega) W h
      have f9 := ref13_bound p (Dec.held p l past).1
      have fa := ref16_why p (Dec.held p l past).2 (p.open' (Dec.load p l) (Dec.now p past)) (Dec.now p past) (p.bound (Dec.held p l past).1)
      have ef : (Stat.of (Samp.vals (Samp.cut (Win.from (Dec.latest l) p.wi) (Dec.latest l) l))).mean = Dec.load p l := rfl
      have ew : p.bound (p.open' (Dec.load p l) (Dec.now p past)) = Dec.wants p l past := (Pol.raw_open p _ _).symm
      have eh : Adv.held p (Dec.latest l) (Dec.wants p l past) past = Dec.held p l past := rfl
      simp only [ef] at f4
      rw [ew] at f7
      simp only [eh] at f8
      unfold Dec.adv at eo
      obtain ⟨fr, efr⟩ : ∃ x, x = Win.from (Dec.latest l) p.wi := ⟨_, rfl⟩
      simp only [← efr] at f2 f3 f4 hcl
      obtain ⟨cu, ecu⟩ : ∃ x, x = Samp.cut fr (Dec.latest l) l := ⟨_, rfl⟩
      simp only [← ecu] at f3 f4 hcl
      obtain ⟨now, enow⟩ : ∃ x, x = Dec.now p past := ⟨_, rfl⟩
      obtain ⟨tick, etick⟩ : ∃ x, x = Dec.latest l := ⟨_, rfl⟩
      obtain ⟨load, eload⟩ : ∃ x, x = Dec.load p l := ⟨_, rfl⟩
      obtain ⟨want, ewant⟩ : ∃ x, x = Dec.wants p l past := ⟨_, rfl⟩
      obtain ⟨hd, ehd⟩ : ∃ x, x = Dec.held p l past := ⟨_, rfl⟩
      simp only [← enow] at f5 f6 f7 fa eo
      simp only [← etick] at f1 f2 f3 f8 eo
      simp only [← eload] at f4 f6 f7 fa eo hld
      simp only [← ewant] at f7 f8 eo
      simp only [← ehd] at f8 f9 fa eo
      obtain ⟨op, eop⟩ : ∃ x, x = p.open' load now := ⟨_, rfl⟩
      rw [← eop] at f6 f7 fa eo
      obtain ⟨hn, hh⟩ := hd
      simp only at f8 f9 fa eo
      obtain ⟨rp, erp⟩ : ∃ x, x = p.bound hn := ⟨_, rfl⟩
      rw [← erp] at f9 fa eo
      obtain ⟨why, ewhy⟩ : ∃ x, x = Dec.why p hh op now rp := ⟨_, rfl⟩
      rw [← ewhy] at fa eo
      subst eo
      obtain ⟨n, en⟩ : ∃ n, n = l.length := ⟨_, rfl⟩
      obtain ⟨m, em⟩ : ∃ n, n = past.length := ⟨_, rfl⟩
      rw [← en] at h0 hb
      simp only [← en] at f1 f3 ⊢
      simp only [← em] at f5 f8 ⊢
      have HC := Lib.hid hc
      have F1 := Lib.hid f1
      have F2 := Lib.hid f2
      have F3 := Lib.hid f3
      have F4 := Lib.hid f4
      have F5 := Lib.hid f5
      have F6 := Lib.hid f6
      have F7 := Lib.hid f7
      have F8 := Lib.hid f8
      have F9 := Lib.hid f9
      have FA := Lib.hid fa
      have HS := Lib.hid hs
      have HQ := Lib.hid hq
      have d0 : ((n : Int) == 0) = false := beq_eq_false_iff_ne.2 (by omega)
      clear hc f1 f2 f3 f4 f5 f6 f7 f8 f9 fa hs hq hin hpa hp hok e1 e2 hlat hld ew eh ef efr ecu hcin hcl enow etick eload ewant ehd eop erp ewhy en em hb hb2
      go_enter Tryz.func30, Tryz.ntmps30
      go_wp2_with ((with_reducible refine wpList_load_rowAs rfl 23 _ rfl (w.heap.size) ?_ 23 #[.int .i64 p.mn, .int .i64 p.mx, .int .i64 p.tg, .int .i64 p.tl, .int .i64 p.wi, .int .i64 p.ho] (0, 0) _ 6 ?_ Tryz.underlying23 rfl (by kernel_rfl) ?_ ?_); exact rfl; exact (by first | (with_reducible exact heap_1_0 _ _) | (with_reducible exact heap_2_0 _ _ _) | (with_reducible exact heap_2_1 _ _ _) | (with_reducible exact heap_3_0 _ _ _ _) | (with_reducible exact heap_3_1 _ _ _ _) | (with_reducible exact heap_3_2 _ _ _ _) | (with_reducible exact heap_4_0 _ _ _ _ _) | (with_reducible exact heap_4_1 _ _ _ _ _) | (with_reducible exact heap_4_2 _ _ _ _ _) | (with_reducible exact heap_4_3 _ _ _ _ _) | (with_reducible exact heap_5_0 _ _ _ _ _ _) | (with_reducible exact heap_5_1 _ _ _ _ _ _) | (with_reducible exact heap_5_2 _ _ _ _ _ _) | (with_reducible exact heap_5_3 _ _ _ _ _ _) | (with_reducible exact heap_5_4 _ _ _ _ _ _) | (with_reducible exact heap_6_0 _ _ _ _ _ _ _) | (with_reducible exact heap_6_1 _ _ _ _ _ _ _) | (with_reducible exact heap_6_2 _ _ _ _ _ _ _) | (with_reducible exact heap_6_3 _ _ _ _ _ _ _) | (with_reducible exact heap_6_4 _ _ _ _ _ _ _) | (with_reducible exact heap_6_5 _ _ _ _ _ _ _) | simp only [heap_alloc_past, heap_alloc_at, World.size_alloc, Nat.add_assoc, Nat.reduceAdd, Nat.lt_add_right_iff_pos, Nat.add_lt_add_iff_left, Nat.reduceLT, Nat.zero_lt_succ, Nat.lt_add_one]); exact rfl)
      (with_reducible refine (HC.out _).mono ?_)
      rintro e w1 ⟨rfl, hb1⟩
      have M1 := Lib.hid ((((Mem.start w).alloc (.cells #[.int .i64 p.mn, .int .i64 p.mx, .int .i64 p.tg, .int .i64 p.tl, .int .i64 p.wi, .int .i64 p.ho] 23)).allocAs (w.heap.size + 1) (.cells #[.int .i64 0, .int .i64 0, .int .i64 0, .int .i64 0, .int .i64 0] 53) (by simp)).call hb1)
      clear hb1
      go_wp2_with fail
      (with_reducible refine (F1.out _ (HS.out.below M1.out.below)).mono ?_)
      rintro e w2 ⟨rfl, hb2⟩
      have M2 := Lib.hid (M1.out.call hb2)
      have c1 := M2.out.cell 0 4 rfl rfl
      clear hb2 M1
      go_wp2_with ((with_reducible refine (F2.out _).mono ?_); rintro e w3 ⟨rfl, rfl⟩)
      (with_reducible refine (F3.out _ (HS.out.below M2.out.below)).mono ?_)
      rintro e w4 ⟨u, rfl, hO, hb4⟩
      obtain ⟨cq, cc, rfl, _, hcu⟩ := samps_of_owns hO
      have M4 := Lib.hid (M2.out.call hb4)
      have HCU := Lib.hid hcu
      clear hb4 hO hcu c1 M2
      go_wp2_with fail
      (with_reducible refine (F4.out _ _ _ HCU.out).mono ?_)
      rintro e w5 ⟨rfl, hb5⟩
      have M5 := Lib.hid (M4.out.call hb5)
      have K0 := Lib.hid (M5.out.heap 0 rfl)
      clear hb5 M4 HCU
      go_wp2_with ((with_reducible refine wpList_load_rowAs rfl 23 _ rfl (w.heap.size) ?_ 23 #[.int .i64 p.mn, .int .i64 p.mx, .int .i64 p.tg, .int .i64 p.tl, .int .i64 p.wi, .int .i64 p.ho] (0, 0) _ 6 ?_ Tryz.underlying23 rfl (by kernel_rfl) ?_ ?_); exact rfl; exact K0.out; exact rfl)
      (with_reducible refine (F5.out _ (HQ.out.below M5.out.below)).mono ?_)
      rintro e w6 ⟨rfl, hb6⟩
      have M6 := Lib.hid (M5.out.call hb6)
      clear hb6 K0 M5
      have K0 := Lib.hid (M6.out.heap 0 rfl)
      go_wp2_with ((with_reducible refine wpList_load_rowAs rfl 23 _ rfl (w.heap.size) ?_ 23 #[.int .i64 p.mn, .int .i64 p.mx, .int .i64 p.tg, .int .i64 p.tl, .int .i64 p.wi, .int .i64 p.ho] (0, 0) _ 6 ?_ Tryz.underlying23 rfl (by kernel_rfl) ?_ ?_); exact rfl; exact K0.out; exact rfl)
      (with_reducible refine (F6.out _).mono ?_)
      rintro e w7 ⟨rfl, hb7⟩
      have M7 := Lib.hid (M6.out.call hb7)
      clear hb7 K0 M6
      have K0 := Lib.hid (M7.out.heap 0 rfl)
      go_wp2_with ((with_reducible refine wpList_load_rowAs rfl 23 _ rfl (w.heap.size) ?_ 23 #[.int .i64 p.mn, .int .i64 p.mx, .int .i64 p.tg, .int .i64 p.tl, .int .i64 p.wi, .int .i64 p.ho] (0, 0) _ 6 ?_ Tryz.underlying23 rfl (by kernel_rfl) ?_ ?_); exact rfl; exact K0.out; exact rfl)
      (with_reducible refine (F7.out _).mono ?_)
      rintro e w8 ⟨rfl, hb8⟩
      have M8 := Lib.hid (M7.out.call hb8)
      clear hb8 K0 M7
      have K0 := Lib.hid (M8.out.heap 0 rfl)
      go_wp2_with ((with_reducible refine wpList_load_rowAs rfl 23 _ rfl (w.heap.size) ?_ 23 #[.int .i64 p.mn, .int .i64 p.mx, .int .i64 p.tg, .int .i64 p.tl, .int .i64 p.wi, .int .i64 p.ho] (0, 0) _ 6 ?_ Tryz.underlying23 rfl (by kernel_rfl) ?_ ?_); exact rfl; exact K0.out; exact rfl)
      (with_reducible refine (F8.out _ (HQ.out.below M8.out.below)).mono ?_)
      rintro e w9 ⟨rfl, hb9⟩
      have M9 := Lib.hid (M8.out.call hb9)
      clear hb9 K0 M8
      have K0 := Lib.hid (M9.out.heap 0 rfl)
      go_wp2_with ((with_reducible refine wpList_load_rowAs rfl 23 _ rfl (w.heap.size) ?_ 23 #[.int .i64 p.mn, .int .i64 p.mx, .int .i64 p.tg, .int .i64 p.tl, .int .i64 p.wi, .int .i64 p.ho] (0, 0) _ 6 ?_ Tryz.underlying23 rfl (by kernel_rfl) ?_ ?_); exact rfl; exact K0.out; exact rfl)
      (with_reducible refine (F9.out _).mono ?_)
      rintro e wa ⟨rfl, hba⟩
      have MA := Lib.hid (M9.out.call hba)
      clear hba K0 M9
      have K0 := Lib.hid (MA.out.heap 0 rfl)
      go_wp2_with ((with_reducible refine wpList_load_rowAs rfl 23 _ rfl (w.heap.size) ?_ 23 #[.int .i64 p.mn, .int .i64 p.mx, .int .i64 p.tg, .int .i64 p.tl, .int .i64 p.wi, .int .i64 p.ho] (0, 0) _ 6 ?_ Tryz.underlying23 rfl (by kernel_rfl) ?_ ?_); exact rfl; exact K0.out; exact rfl)
      (with_reducible refine (FA.out _).mono ?_)
      rintro e wb ⟨rfl, hbb⟩
      have MB := Lib.hid (MA.out.call hbb)
      clear hbb K0 MA
      have K2 := Lib.hid (MB.out.heap 1 rfl)
      have MD := MB.out.setRow 1 (cs := #[.int .i64 tick, .int .i64 load, .int .i64 want, .int .i64 rp, .int .i64 why]) rfl
      have MD := Lib.hid MD
      go_wp2_with ((with_reducible refine wpList_store_rowAs rfl 53 _ _ rfl ((w.heap.size + 1)) #[.int .i64 tick, .int .i64 load, .int .i64 want, .int .i64 rp, .int .i64 why] ?_ ?_ 53 #[.int .i64 0, .int .i64 0, .int .i64 0, .int .i64 0, .int .i64 0] 5 ?_ (by kernel_rfl) rfl rfl (by simp [Value.oneCell']) ?_); exact rfl; exact rfl; exact K2.out)
      exact bodyPost_ret (results_row_tmp rfl _ _ (w.heap.size + 1) 53 #[.int .i64 tick, .int .i64 load, .int .i64 want, .int .i64 rp, .int .i64 why] (0, 0) _ 5 _ rfl rfl (MD.out.heap 1 rfl) Tryz.underlying53 rfl advSize rfl) rfl ⟨rfl, MD.out.below⟩
end Go.Proofs.YtildjnibdappnaaGreat
