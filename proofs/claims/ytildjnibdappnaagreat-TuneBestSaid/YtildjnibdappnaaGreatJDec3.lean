/- Layer 16: the decision. -/
import Derived.Test.YtildjnibdappnaaGreatJDec2
import Derived.Test.YtildjnibdappnaaGreatJBase
namespace Go.Proofs.YtildjnibdappnaaGreat
open Go.ChangeShapes Go.WideShapes Go.ChangeAt Go.RowKit

theorem advSize : (Tryz.prog.info? 53).map (·.size) = some 5 := by kernel_rfl

theorem stat_field4 (a b c d e : Int) (w : World) : (Instr.field 108 (.agg #[.int .i64 a, .int .i64 b, .int .i64 c, .int .i64 d, .int .i64 e]) 4).run Tryz.prog w = .ok (.int .i64 e) w := by kernel_rfl

theorem Dec.of_bad {p : Pol} {l : List Samp} {past : List Adv} (h : p.ok = false) : Dec.of p l past = ⟨0, 0, 0, 0, 0⟩ ∧ Dec.err p l = 7 := by
  have : Dec.err p l = 7 := by unfold Dec.err; rw [if_neg (by rw [h]; simp)]
  exact ⟨by unfold Dec.of; rw [if_neg (by rw [this]; omega)], this⟩
theorem Dec.of_none {p : Pol} {l : List Samp} {past : List Adv} (h : p.ok = true) (h0 : l.length = 0) : Dec.of p l past = ⟨0, 0, 0, 0, 0⟩ ∧ Dec.err p l = 5 := by
  have : Dec.err p l = 5 := by unfold Dec.err; rw [if_pos h, if_pos h0]
  exact ⟨by unfold Dec.of; rw [if_neg (by rw [this]; omega)], this⟩
theorem Dec.of_some {p : Pol} {l : List Samp} {past : List Adv} (h : p.ok = true) (h0 : l.length ≠ 0) : Dec.of p l past = Dec.adv p l past ∧ Dec.err p l = 0 := by
  have : Dec.err p l = 0 := by unfold Dec.err; rw [if_pos h, if_neg h0]
  exact ⟨by unfold Dec.of; rw [if_pos this], this⟩

theorem Pol.raw_open (p : Pol) (load now : Int) : p.raw load now = p.bound (p.open' load now) := by
  unfold Pol.raw Pol.open'
  split <;> rfl

set_option maxHeartbeats 1000000 in
set_option maxRecDepth 100000 in
theorem decide_of (p : Pol) (hp : p.In) (sp : Option Addr) (sc : Nat) (l : List Samp) (hin : ∀ a ∈ l, a.In) (hb : l.length ≤ 100000) (q : Option Addr) (cap : Nat) (past : List Adv) (hpa : ∀ a ∈ past, a.In) (hb2 : past.length ≤ 100000)
    (o : Adv) (eo : o = Dec.of p l past) (w : World) (hs : Samps w sp l) (hq : Advs w q past) :
    Calls Tryz.prog 48 #[.agg #[.int .i64 p.mn, .int .i64 p.mx, .int .i64 p.tg, .int .i64 p.tl, .int .i64 p.wi, .int .i64 p.ho], .slice sp l.length sc, .slice q past.length cap] w fun e w' => e = .returned (.tuple #[.agg #[.int .i64 o.tick, .int .i64 o.load, .int .i64 o.want, .int .i64 o.repl, .int .i64 o.why], .int .i64 (Dec.err p l)]) ∧ Below w.heap.size w w' := by
  have hc := policy_check p
  have herr : p.err = if p.ok = true then 0 else 7 := rfl
  cases hok : p.ok with
  | false =>
    rw [herr, if_neg (by rw [hok]; simp)] at hc
    obtain ⟨e1, e2⟩ := Dec.of_bad (l := l) (past := past) hok
    rw [e1] at eo
    rw [e2]
    subst eo
    have HC := Lib.hid hc
    clear hc herr hok e1 e2 hs hq hin hpa hp
    obtain ⟨n, hn⟩ : ∃ n, n = l.length := ⟨_, rfl⟩
    obtain ⟨m, hm⟩ : ∃ n, n = past.length := ⟨_, rfl⟩
    rw [← hn, ← hm]
    clear hn hm hb hb2
    go_enter Tryz.func48, Tryz.ntmps48
    go_wp2_with ((with_reducible refine wpList_load_rowAs rfl 23 _ rfl (w.heap.size) ?_ 23 #[.int .i64 p.mn, .int .i64 p.mx, .int .i64 p.tg, .int .i64 p.tl, .int .i64 p.wi, .int .i64 p.ho] (0, 0) _ 6 ?_ Tryz.underlying23 rfl (by kernel_rfl) ?_ ?_); exact rfl; exact (by first | (with_reducible exact heap_1_0 _ _) | (with_reducible exact heap_2_0 _ _ _) | (with_reducible exact heap_2_1 _ _ _) | (with_reducible exact heap_3_0 _ _ _ _) | (with_reducible exact heap_3_1 _ _ _ _) | (with_reducible exact heap_3_2 _ _ _ _) | (with_reducible exact heap_4_0 _ _ _ _ _) | (with_reducible exact heap_4_1 _ _ _ _ _) | (with_reducible exact heap_4_2 _ _ _ _ _) | (with_reducible exact heap_4_3 _ _ _ _ _) | (with_reducible exact heap_5_0 _ _ _ _ _ _) | (with_reducible exact heap_5_1 _ _ _ _ _ _) | (with_reducible exact heap_5_2 _ _ _ _ _ _) | (with_reducible exact heap_5_3 _ _ _ _ _ _) | (with_reducible exact heap_5_4 _ _ _ _ _ _) | (with_reducible exact heap_6_0 _ _ _ _ _ _ _) | (with_reducible exact heap_6_1 _ _ _ _ _ _ _) | (with_reducible exact heap_6_2 _ _ _ _ _ _ _) | (with_reducible exact heap_6_3 _ _ _ _ _ _ _) | (with_reducible exact heap_6_4 _ _ _ _ _ _ _) | (with_reducible exact heap_6_5 _ _ _ _ _ _ _) | simp only [heap_alloc_past, heap_alloc_at, World.size_alloc, Nat.add_assoc, Nat.reduceAdd, Nat.lt_add_right_iff_pos, Nat.add_lt_add_iff_left, Nat.reduceLT, Nat.zero_lt_succ, Nat.lt_add_one]); exact rfl)
    (with_reducible refine (HC.out _).mono ?_)
    rintro e w1 ⟨rfl, hb1⟩
    have M1 := Lib.hid ((((Mem.start w).alloc (.cells #[.int .i64 p.mn, .int .i64 p.mx, .int .i64 p.tg, .int .i64 p.tl, .int .i64 p.wi, .int .i64 p.ho] 23)).allocAs (w.heap.size + 1) (.cells #[.int .i64 0, .int .i64 0, .int .i64 0, .int .i64 0, .int .i64 0] 53) (by simp)).call hb1)
    have K1 := Lib.hid (M1.out.heap 1 rfl)
    clear hb1
    go_wp2_with ((with_reducible refine wpList_store_rowAs rfl 53 _ _ rfl ((w.heap.size + 1)) #[.int .i64 0, .int .i64 0, .int .i64 0, .int .i64 0, .int .i64 0] ?_ ?_ 53 #[.int .i64 0, .int .i64 0, .int .i64 0, .int .i64 0, .int .i64 0] 5 ?_ (by kernel_rfl) rfl rfl (by simp [Value.oneCell']) ?_); exact rfl; exact rfl; exact K1.out)
    exact bodyPost_ret (results_row_tmp rfl _ _ (w.heap.size + 1) 53 #[.int .i64 0, .int .i64 0, .int .i64 0, .int .i64 0, .int .i64 0] (0, 0) _ 5 _ rfl rfl ((M1.out.setRow 1 rfl).heap 1 rfl) Tryz.underlying53 rfl advSize rfl) rfl ⟨rfl, (M1.out.setRow 1 rfl).below⟩
  | true =>
    rw [herr, if_pos hok] at hc
    by_cases h0 : l.length = 0
    · obtain ⟨e1, e2⟩ := Dec.of_none (past := past) hok h0
      rw [e1] at eo
      rw [e2, h0]
      subst eo
      have HC := Lib.hid hc
      clear hc herr hok e1 e2 hs hq hin hpa hp h0
      obtain ⟨m, hm⟩ : ∃ n, n = past.length := ⟨_, rfl⟩
      rw [← hm]
      clear hm hb hb2
      go_enter Tryz.func48, Tryz.ntmps48
      go_wp2_with ((with_reducible refine wpList_load_rowAs rfl 23 _ rfl (w.heap.size) ?_ 23 #[.int .i64 p.mn, .int .i64 p.mx, .int .i64 p.tg, .int .i64 p.tl, .int .i64 p.wi, .int .i64 p.ho] (0, 0) _ 6 ?_ Tryz.underlying23 rfl (by kernel_rfl) ?_ ?_); exact rfl; exact (by first | (with_reducible exact heap_1_0 _ _) | (with_reducible exact heap_2_0 _ _ _) | (with_reducible exact heap_2_1 _ _ _) | (with_reducible exact heap_3_0 _ _ _ _) | (with_reducible exact heap_3_1 _ _ _ _) | (with_reducible exact heap_3_2 _ _ _ _) | (with_reducible exact heap_4_0 _ _ _ _ _) | (with_reducible exact heap_4_1 _ _ _ _ _) | (with_reducible exact heap_4_2 _ _ _ _ _) | (with_reducible exact heap_4_3 _ _ _ _ _) | (with_reducible exact heap_5_0 _ _ _ _ _ _) | (with_reducible exact heap_5_1 _ _ _ _ _ _) | (with_reducible exact heap_5_2 _ _ _ _ _ _) | (with_reducible exact heap_5_3 _ _ _ _ _ _) | (with_reducible exact heap_5_4 _ _ _ _ _ _) | (with_reducible exact heap_6_0 _ _ _ _ _ _ _) | (with_reducible exact heap_6_1 _ _ _ _ _ _ _) | (with_reducible exact heap_6_2 _ _ _ _ _ _ _) | (with_reducible exact heap_6_3 _ _ _ _ _ _ _) | (with_reducible exact heap_6_4 _ _ _ _ _ _ _) | (with_reducible exact heap_6_5 _ _ _ _ _ _ _) | simp only [heap_alloc_past, heap_alloc_at, World.size_alloc, Nat.add_assoc, Nat.reduceAdd, Nat.lt_add_right_iff_pos, Nat.add_lt_add_iff_left, Nat.reduceLT, Nat.zero_lt_succ, Nat.lt_add_one]); exact rfl)
      (with_reducible refine (HC.out _).mono ?_)
      rintro e w1 ⟨rfl, hb1⟩
      have M1 := Lib.hid ((((Mem.start w).alloc (.cells #[.int .i64 p.mn, .int .i64 p.mx, .int .i64 p.tg, .int .i64 p.tl, .int .i64 p.wi, .int .i64 p.ho] 23)).allocAs (w.heap.size + 1) (.cells #[.int .i64 0, .int .i64 0, .int .i64 0, .int .i64 0, .int .i64 0] 53) (by simp)).call hb1)
      have K1 := Lib.hid (M1.out.heap 1 rfl)
      clear hb1
      go_wp2_with ((with_reducible refine wpList_store_rowAs rfl 53 _ _ rfl ((w.heap.size + 1)) #[.int .i64 0, .int .i64 0, .int .i64 0, .int .i64 0, .int .i64 0] ?_ ?_ 53 #[.int .i64 0, .int .i64 0, .int .i64 0, .int .i64 0, .int .i64 0] 5 ?_ (by kernel_rfl) rfl rfl (by simp [Value.oneCell']) ?_); exact rfl; exact rfl; exact K1.out)
      exact bodyPost_ret (results_row_tmp rfl _ _ (w.heap.size + 1) 53 #[.int .i64 0, .int .i64 0, .int .i64 0, .int .i64 0, .int .i64 0] (0, 0) _ 5 _ rfl rfl ((M1.out.setRow 1 rfl).heap 1 rfl) Tryz.underlying53 rfl advSize rfl) rfl ⟨rfl, (M1.out.setRow 1 rfl).below⟩
    · obtain ⟨e1, e2⟩ := Dec.of_some (past := past) hok h0
      rw [e1] at eo
      rw [e2]
      have hlat := Dec.latest_I64 l h0 hin
      have hnow := Dec.now_I64 p hp past hpa
      have hld := Dec.load_I64 p l
      have f1 := fun W : World => fun h : Advs W q past => decide_now p q cap past (by omega) W h
      have f2 := fun W : World => fun h : Samps W sp l => decide_latest sp sc l h0 hb W h
      have f3 := fun W : World => fun h : Samps W sp l => window_at sp sc l hin hb (Dec.latest l) p.wi hlat hp.2.2.2.2.1 _ rfl W h
      have f4 := control_raw p hp (Dec.load p l) (Dec.now p past) hld
      have f5 := fun W : World => fun h : Advs W q past => steady_of p hp (Dec.latest l) (Dec.wants p l past) hlat q cap past (by omega) W h
      have f6 := control_bound p (Dec.held p l past).1
      have f7 := fun a : Adv => fun ha : I64 a.load => decide_why p hp a ha (Dec.now p past) (Dec.held p l past).2
      have ef : (Stat.of (Samp.vals (Samp.cut (Win.from (Dec.latest l) p.wi) (Dec.latest l) l))).mean = Dec.load p l := rfl
      have ew : p.raw (Dec.load p l) (Dec.now p past) = Dec.wants p l past := rfl
      have eh : Adv.held p (Dec.latest l) (Dec.wants p l past) past = Dec.held p l past := rfl
      rw [ew] at f4
      simp only [eh] at f5
      unfold Dec.adv at eo
      obtain ⟨st, est⟩ : ∃ st, st = Stat.of (Samp.vals (Samp.cut (Win.from (Dec.latest l) p.wi) (Dec.latest l) l)) := ⟨_, rfl⟩
      simp only [← est] at f3
      rw [← est] at ef
      obtain ⟨cnt, sm, ls, ms, mn⟩ := st
      simp only at f3 ef
      subst ef
      obtain ⟨now, enow⟩ : ∃ x, x = Dec.now p past := ⟨_, rfl⟩
      obtain ⟨tick, etick⟩ : ∃ x, x = Dec.latest l := ⟨_, rfl⟩
      obtain ⟨load, eload⟩ : ∃ x, x = Dec.load p l := ⟨_, rfl⟩
      obtain ⟨want, ewant⟩ : ∃ x, x = Dec.wants p l past := ⟨_, rfl⟩
      obtain ⟨hd, ehd⟩ : ∃ x, x = Dec.held p l past := ⟨_, rfl⟩
      simp only [← enow] at f1 f4 f7 eo
      simp only [← etick] at f2 f3 f5 eo
      simp only [← eload] at f3 f4 eo hld
      simp only [← ewant] at f4 f5 eo
      simp only [← ehd] at f5 f6 f7 eo
      obtain ⟨hn, hh⟩ := hd
      simp only at f5 f6 f7 eo
      obtain ⟨rp, erp⟩ : ∃ x, x = p.bound hn := ⟨_, rfl⟩
      rw [← erp] at f6 eo
      have f7 := f7 ⟨tick, load, want, rp, 0⟩ hld
      simp only at f7
      obtain ⟨why, ewhy⟩ : ∃ x, x = Dec.why p hh (p.open' load now) now rp := ⟨_, rfl⟩
      rw [← ewhy] at f7 eo
      subst eo
      obtain ⟨n, en⟩ : ∃ n, n = l.length := ⟨_, rfl⟩
      obtain ⟨m, em⟩ : ∃ n, n = past.length := ⟨_, rfl⟩
      rw [← en] at h0 hb
      simp only [← en] at f2 f3 ⊢
      simp only [← em] at f1 f5 ⊢
      have HC := Lib.hid hc
      have F1 := Lib.hid f1
      have F2 := Lib.hid f2
      have F3 := Lib.hid f3
      have F4 := Lib.hid f4
      have F5 := Lib.hid f5
      have F6 := Lib.hid f6
      have F7 := Lib.hid f7
      have HS := Lib.hid hs
      have HQ := Lib.hid hq
      have d0 : ((n : Int) == 0) = false := beq_eq_false_iff_ne.2 (by omega)
      clear hc f1 f2 f3 f4 f5 f6 f7 hs hq hin hpa hp hok herr e1 e2 hlat hnow hld ew eh est enow etick eload ewant ehd erp ewhy en em hb hb2
      go_enter Tryz.func48, Tryz.ntmps48
      go_wp2_with ((with_reducible refine wpList_load_rowAs rfl 23 _ rfl (w.heap.size) ?_ 23 #[.int .i64 p.mn, .int .i64 p.mx, .int .i64 p.tg, .int .i64 p.tl, .int .i64 p.wi, .int .i64 p.ho] (0, 0) _ 6 ?_ Tryz.underlying23 rfl (by kernel_rfl) ?_ ?_); exact rfl; exact (by first | (with_reducible exact heap_1_0 _ _) | (with_reducible exact heap_2_0 _ _ _) | (with_reducible exact heap_2_1 _ _ _) | (with_reducible exact heap_3_0 _ _ _ _) | (with_reducible exact heap_3_1 _ _ _ _) | (with_reducible exact heap_3_2 _ _ _ _) | (with_reducible exact heap_4_0 _ _ _ _ _) | (with_reducible exact heap_4_1 _ _ _ _ _) | (with_reducible exact heap_4_2 _ _ _ _ _) | (with_reducible exact heap_4_3 _ _ _ _ _) | (with_reducible exact heap_5_0 _ _ _ _ _ _) | (with_reducible exact heap_5_1 _ _ _ _ _ _) | (with_reducible exact heap_5_2 _ _ _ _ _ _) | (with_reducible exact heap_5_3 _ _ _ _ _ _) | (with_reducible exact heap_5_4 _ _ _ _ _ _) | (with_reducible exact heap_6_0 _ _ _ _ _ _ _) | (with_reducible exact heap_6_1 _ _ _ _ _ _ _) | (with_reducible exact heap_6_2 _ _ _ _ _ _ _) | (with_reducible exact heap_6_3 _ _ _ _ _ _ _) | (with_reducible exact heap_6_4 _ _ _ _ _ _ _) | (with_reducible exact heap_6_5 _ _ _ _ _ _ _) | simp only [heap_alloc_past, heap_alloc_at, World.size_alloc, Nat.add_assoc, Nat.reduceAdd, Nat.lt_add_right_iff_pos, Nat.add_lt_add_iff_left, Nat.reduceLT, Nat.zero_lt_succ, Nat.lt_add_one]); exact rfl)
      (with_reducible refine (HC.out _).mono ?_)
      rintro e w1 ⟨rfl, hb1⟩
      have M1 := Lib.hid ((((Mem.start w).alloc (.cells #[.int .i64 p.mn, .int .i64 p.mx, .int .i64 p.tg, .int .i64 p.tl, .int .i64 p.wi, .int .i64 p.ho] 23)).allocAs (w.heap.size + 1) (.cells #[.int .i64 0, .int .i64 0, .int .i64 0, .int .i64 0, .int .i64 0] 53) (by simp)).call hb1)
      have K1 := Lib.hid (M1.out.heap 0 rfl)
      clear hb1
      go_wp2_with ((with_reducible refine wpList_load_rowAs rfl 23 _ rfl (w.heap.size) ?_ 23 #[.int .i64 p.mn, .int .i64 p.mx, .int .i64 p.tg, .int .i64 p.tl, .int .i64 p.wi, .int .i64 p.ho] (0, 0) _ 6 ?_ Tryz.underlying23 rfl (by kernel_rfl) ?_ ?_); exact rfl; exact K1.out; exact rfl)
      (with_reducible refine (F1.out _ (HQ.out.below M1.out.below)).mono ?_)
      rintro e w2 ⟨rfl, hb2⟩
      have M2 := Lib.hid (M1.out.call hb2)
      clear hb2 K1
      go_wp2_with fail
      (with_reducible refine (F2.out _ (HS.out.below M2.out.below)).mono ?_)
      rintro e w3 ⟨rfl, hb3⟩
      have M3 := Lib.hid ((M2.out.call hb3).alloc (.cells #[.int .i64 tick, .int .i64 0, .int .i64 0, .int .i64 0, .int .i64 0] 53))
      have c1 : (w3.alloc (.cells #[.int .i64 tick, .int .i64 0, .int .i64 0, .int .i64 0, .int .i64 0] 53)).cell? ⟨w3.heap.size, 0, none⟩ = some (.int .i64 tick) := M3.out.cell 2 0 rfl rfl
      have c2 : (w3.alloc (.cells #[.int .i64 tick, .int .i64 0, .int .i64 0, .int .i64 0, .int .i64 0] 53)).cell? ⟨w.heap.size, 4, none⟩ = some (.int .i64 p.wi) := M3.out.cell 0 4 rfl rfl
      clear hb3
      go_wp2_with ((with_reducible refine wpList_store_rowAs rfl 53 _ _ rfl (w3.heap.size) #[.int .i64 tick, .int .i64 0, .int .i64 0, .int .i64 0, .int .i64 0] ?_ ?_ 53 #[.int .i64 0, .int .i64 0, .int .i64 0, .int .i64 0, .int .i64 0] 5 ?_ (by kernel_rfl) rfl rfl (by simp [Value.oneCell']) ?_); exact rfl; exact rfl; exact (heap_alloc_at _ _ _ rfl); (first | rw [row_1_0] | rw [row_2_0] | rw [row_2_1] | rw [row_3_0] | rw [row_3_1] | rw [row_3_2] | rw [row_4_0] | rw [row_4_1] | rw [row_4_2] | rw [row_4_3] | rw [row_5_0] | rw [row_5_1] | rw [row_5_2] | rw [row_5_3] | rw [row_5_4] | rw [row_6_0] | rw [row_6_1] | rw [row_6_2] | rw [row_6_3] | rw [row_6_4] | rw [row_6_5] | simp only [setRow_alloc_past, setRow_alloc_at, World.size_alloc, Nat.add_assoc, Nat.reduceAdd, Nat.lt_add_right_iff_pos, Nat.add_lt_add_iff_left, Nat.reduceLT, Nat.zero_lt_succ, Nat.lt_add_one]))
      (with_reducible refine (F3.out _ (HS.out.below M3.out.below)).mono ?_)
      rintro e w4 ⟨rfl, hb4⟩
      have M4 := Lib.hid (M3.out.call hb4)
      clear hb4 c1 c2
      have hfld := stat_field4
      have c1 := M4.out.cell 2 1 rfl rfl
      have g1 := M4.out.free 2 1 rfl
      have M5 := Lib.hid (M4.out.setCell 2 1 (.int .i64 load) rfl)
      have c2 := M5.out.cell 2 1 rfl rfl
      have K0 := Lib.hid (M5.out.heap 0 rfl)
      go_wp2_with ((with_reducible refine wpList_load_rowAs rfl 23 _ rfl (w.heap.size) ?_ 23 #[.int .i64 p.mn, .int .i64 p.mx, .int .i64 p.tg, .int .i64 p.tl, .int .i64 p.wi, .int .i64 p.ho] (0, 0) _ 6 ?_ Tryz.underlying23 rfl (by kernel_rfl) ?_ ?_); exact rfl; exact K0.out; exact rfl)
      (with_reducible refine (F4.out _).mono ?_)
      rintro e w5 ⟨rfl, hb5⟩
      have M6 := Lib.hid (M5.out.call hb5)
      clear hfld hb5 c1 c2 g1 K0 M5 M4
      have c1 := M6.out.cell 2 2 rfl rfl
      have g1 := M6.out.free 2 2 rfl
      have M7 := Lib.hid (M6.out.setCell 2 2 (.int .i64 want) rfl)
      have c2 := M7.out.cell 2 0 rfl rfl
      have c3 := M7.out.cell 2 2 rfl rfl
      have K0 := Lib.hid (M7.out.heap 0 rfl)
      go_wp2_with ((with_reducible refine wpList_load_rowAs rfl 23 _ rfl (w.heap.size) ?_ 23 #[.int .i64 p.mn, .int .i64 p.mx, .int .i64 p.tg, .int .i64 p.tl, .int .i64 p.wi, .int .i64 p.ho] (0, 0) _ 6 ?_ Tryz.underlying23 rfl (by kernel_rfl) ?_ ?_); exact rfl; exact K0.out; exact rfl)
      (with_reducible refine (F5.out _ (HQ.out.below M7.out.below)).mono ?_)
      rintro e w6 ⟨rfl, hb6⟩
      have M8 := Lib.hid (M7.out.call hb6)
      clear hb6 c1 c2 c3 g1 K0 M6 M7
      have K0 := Lib.hid (M8.out.heap 0 rfl)
      go_wp2_with ((with_reducible refine wpList_load_rowAs rfl 23 _ rfl (w.heap.size) ?_ 23 #[.int .i64 p.mn, .int .i64 p.mx, .int .i64 p.tg, .int .i64 p.tl, .int .i64 p.wi, .int .i64 p.ho] (0, 0) _ 6 ?_ Tryz.underlying23 rfl (by kernel_rfl) ?_ ?_); exact rfl; exact K0.out; exact rfl)
      (with_reducible refine (F6.out _).mono ?_)
      rintro e w7 ⟨rfl, hb7⟩
      have M9 := Lib.hid (M8.out.call hb7)
      clear hb7 K0 M8
      have c1 := M9.out.cell 2 3 rfl rfl
      have g1 := M9.out.free 2 3 rfl
      have MA := Lib.hid (M9.out.setCell 2 3 (.int .i64 rp) rfl)
      have K0 := Lib.hid (MA.out.heap 0 rfl)
      have K1 : Hid ((w7.setCell ⟨w3.heap.size, 3, none⟩ (.int .i64 rp)).heap[w3.heap.size]? = some (.cells #[.int .i64 tick, .int .i64 load, .int .i64 want, .int .i64 rp, .int .i64 0] 53 (0, 0))) := MA.out.heap 2 rfl
      go_wp2_with (first | ((with_reducible refine wpList_load_rowAs rfl 23 _ rfl (w.heap.size) ?_ 23 #[.int .i64 p.mn, .int .i64 p.mx, .int .i64 p.tg, .int .i64 p.tl, .int .i64 p.wi, .int .i64 p.ho] (0, 0) _ 6 ?_ Tryz.underlying23 rfl (by kernel_rfl) ?_ ?_); exact rfl; exact K0.out; exact rfl) | ((with_reducible refine wpList_load_rowAs rfl 53 _ rfl (w3.heap.size) ?_ 53 #[.int .i64 tick, .int .i64 load, .int .i64 want, .int .i64 rp, .int .i64 0] (0, 0) _ 5 ?_ Tryz.underlying53 rfl (by kernel_rfl) ?_ ?_); exact rfl; exact K1.out; exact rfl))
      (with_reducible refine (F7.out _).mono ?_)
      rintro e w8 ⟨rfl, hb8⟩
      have MB := Lib.hid (MA.out.call hb8)
      clear hb8 K0 K1 c1 g1 MA M9
      have c1 := MB.out.cell 2 4 rfl rfl
      have g1 := MB.out.free 2 4 rfl
      have MC := Lib.hid (MB.out.setCell 2 4 (.int .i64 why) rfl)
      have K1 : Hid ((w8.setCell ⟨w3.heap.size, 4, none⟩ (.int .i64 why)).heap[w3.heap.size]? = some (.cells #[.int .i64 tick, .int .i64 load, .int .i64 want, .int .i64 rp, .int .i64 why] 53 (0, 0))) := MC.out.heap 2 rfl
      have K2 := Lib.hid (MC.out.heap 1 rfl)
      have MD := MC.out.setRow 1 (cs := #[.int .i64 tick, .int .i64 load, .int .i64 want, .int .i64 rp, .int .i64 why]) rfl
      have MD := Lib.hid MD
      go_wp2_with (first | ((with_reducible refine wpList_load_rowAs rfl 53 _ rfl (w3.heap.size) ?_ 53 #[.int .i64 tick, .int .i64 load, .int .i64 want, .int .i64 rp, .int .i64 why] (0, 0) _ 5 ?_ Tryz.underlying53 rfl (by kernel_rfl) ?_ ?_); exact rfl; exact K1.out; exact rfl) | ((with_reducible refine wpList_store_rowAs rfl 53 _ _ rfl ((w.heap.size + 1)) #[.int .i64 tick, .int .i64 load, .int .i64 want, .int .i64 rp, .int .i64 why] ?_ ?_ 53 #[.int .i64 0, .int .i64 0, .int .i64 0, .int .i64 0, .int .i64 0] 5 ?_ (by kernel_rfl) rfl rfl (by simp [Value.oneCell']) ?_); exact rfl; exact rfl; exact K2.out))
      exact bodyPost_ret (results_row_tmp rfl _ _ (w.heap.size + 1) 53 #[.int .i64 tick, .int .i64 load, .int .i64 want, .int .i64 rp, .int .i64 why] (0, 0) _ 5 _ rfl rfl (MD.out.heap 1 rfl) Tryz.underlying53 rfl advSize rfl) rfl ⟨rfl, MD.out.below⟩
end Go.Proofs.YtildjnibdappnaaGreat
