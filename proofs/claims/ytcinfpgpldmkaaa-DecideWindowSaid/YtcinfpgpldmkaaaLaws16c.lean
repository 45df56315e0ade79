/- Layer 16: the laws, walked: what falls; the window. -/
import Derived.Test.YtcinfpgpldmkaaaLaws16b
namespace Go.Proofs.Ytcinfpgpldmkaaa
open Go.ChangeShapes Go.WideShapes Go.ChangeAt Go.RowKit

theorem Pol.bound_lt {p : Pol} {n now : Int} (h : p.ok = true) (h1 : p.mn ≤ now) (h2 : now ≤ p.mx) (h3 : p.bound n < now) : n < now := by
  have hf := Pol.fine h
  unfold Pol.Fine at hf
  unfold Pol.bound Sat.clampTo at h3
  rw [if_pos h] at h3
  split at h3
  · omega
  · split at h3 <;> omega
theorem Dec.falls {p : Pol} {l : List Samp} {past : List Adv} {now : Int} (h : Dec.err p l = 0) (h1 : p.mn ≤ now) (h2 : now ≤ p.mx) (h3 : (Dec.of p l past).repl < now)
    (h4 : (Adv.highest past (Sat.clamp ((Dec.of p l past).tick - p.ho)) (Dec.of p l past).tick).2 = true) : (Adv.highest past (Sat.clamp ((Dec.of p l past).tick - p.ho)) (Dec.of p l past).tick).1 < now := by
  unfold Dec.of at h3 h4 ⊢
  rw [if_pos h] at h3 h4 ⊢
  unfold Dec.adv Dec.held at h3
  simp only [Dec.adv] at h3 h4 ⊢
  have h5 := Pol.bound_lt (Dec.err_zero h).1 h1 h2 h3
  unfold Adv.held at h5
  obtain ⟨x, ex⟩ : ∃ x, x = Adv.highest past (Sat.clamp (Dec.latest l - p.ho)) (Dec.latest l) := ⟨_, rfl⟩
  rw [← ex] at h4 h5 ⊢
  by_cases hw : Dec.wants p l past < x.1
  · rw [if_pos ⟨h4, hw⟩] at h5
    exact h5
  · rw [if_neg (fun hh => hw hh.2)] at h5
    simp only at h5
    omega

theorem Dec.cut_latest {l : List Samp} {lo : Int} (h0 : l.length ≠ 0) (h : lo ≤ Dec.latest l) : (Samp.cut lo (Dec.latest l) l).length ≠ 0 ∧ Dec.latest (Samp.cut lo (Dec.latest l) l) = Dec.latest l := by
  have hne : l.map Samp.tick ≠ [] := by intro e; simp at e; subst e; exact h0 rfl
  obtain ⟨s1, s2⟩ := lmax_spec hne
  rw [List.mem_map] at s1
  obtain ⟨a, ha, ea⟩ := s1
  have ea' : a.tick = Dec.latest l := ea
  have hm : a ∈ Samp.cut lo (Dec.latest l) l := by
    unfold Samp.cut
    rw [List.mem_filter]
    exact ⟨ha, by simp only [decide_eq_true_eq]; omega⟩
  refine ⟨fun e => ?_, ?_⟩
  · rw [List.length_eq_zero_iff] at e
    rw [e] at hm
    cases hm
  · refine lmax_of (List.mem_map.2 ⟨a, hm, ea'⟩) (fun x hx => ?_)
    rw [List.mem_map] at hx
    obtain ⟨c, hc, rfl⟩ := hx
    unfold Samp.cut at hc
    rw [List.mem_filter] at hc
    simp only [decide_eq_true_eq] at hc
    exact hc.2.2
theorem Samp.cut_cut (lo hi : Int) (l : List Samp) : Samp.cut lo hi (Samp.cut lo hi l) = Samp.cut lo hi l := by
  unfold Samp.cut
  rw [List.filter_filter]
  congr 1
  funext a
  simp
theorem Dec.window {p : Pol} {l : List Samp} {past : List Adv} (h : p.ok = true) (h0 : l.length ≠ 0) (h1 : Win.from (Dec.latest l) p.wi ≤ Dec.latest l) :
    Dec.of p (Samp.cut (Win.from (Dec.latest l) p.wi) (Dec.latest l) l) past = Dec.of p l past ∧ Dec.err p (Samp.cut (Win.from (Dec.latest l) p.wi) (Dec.latest l) l) = Dec.err p l := by
  obtain ⟨e1, e2⟩ := Dec.cut_latest h0 h1
  have he : Dec.err p (Samp.cut (Win.from (Dec.latest l) p.wi) (Dec.latest l) l) = 0 := by unfold Dec.err; rw [if_pos h, if_neg e1]
  have he2 : Dec.err p l = 0 := by unfold Dec.err; rw [if_pos h, if_neg h0]
  have hl : Dec.load p (Samp.cut (Win.from (Dec.latest l) p.wi) (Dec.latest l) l) = Dec.load p l := by
    unfold Dec.load
    rw [e2, Samp.cut_cut]
  refine ⟨?_, by rw [he, he2]⟩
  unfold Dec.of
  rw [if_pos he, if_pos he2]
  unfold Dec.adv Dec.held Dec.wants
  rw [hl, e2]

set_option maxHeartbeats 1000000 in
set_option maxRecDepth 100000 in
theorem decideFalls_walk (p : Pol) (hp : p.In) (sp : Option Addr) (sc : Nat) (l : List Samp) (hin : ∀ a ∈ l, a.In) (hb : l.length ≤ 9223372036854775807) (q : Option Addr) (cap : Nat) (past : List Adv) (hpa : ∀ a ∈ past, a.In) (hb2 : past.length ≤ 9223372036854775807)
    (w : World) (hs : Samps w sp l) (hq : Advs w q past) :
    Calls Try.prog 7 #[.agg #[.int .i64 p.mn, .int .i64 p.mx, .int .i64 p.tg, .int .i64 p.tl, .int .i64 p.wi, .int .i64 p.ho], .slice sp l.length sc, .slice q past.length cap] w fun e w' => e = .returned (.bool true) ∧ Below w.heap.size w w' := by
  obtain ⟨n, en⟩ : ∃ n, n = l.length := ⟨_, rfl⟩
  obtain ⟨m, em⟩ : ∃ n, n = past.length := ⟨_, rfl⟩
  by_cases h1 : 40 < n
  · rw [← en] at hb ⊢
    rw [← em] at hb2 ⊢
    clear en em hs hq hin hpa
    go_enter Try.func7, Try.ntmps7
    go_wp2_with fail
    (with_reducible refine (awake16 _).mono ?_)
    rintro e w1 ⟨rfl, hb1⟩
    have M1 := Lib.hid (((Mem.start w).alloc (.cells #[.int .i64 p.mn, .int .i64 p.mx, .int .i64 p.tg, .int .i64 p.tl, .int .i64 p.wi, .int .i64 p.ho] 44)).call hb1)
    clear hb1
    go_wp2
    go_ret
    exact ⟨rfl, M1.out.below⟩
  by_cases h2 : 40 < m
  · rw [← en] at hb ⊢
    rw [← em] at hb2 ⊢
    clear en em hs hq hin hpa
    go_enter Try.func7, Try.ntmps7
    go_wp2_with fail
    (with_reducible refine (awake16 _).mono ?_)
    rintro e w1 ⟨rfl, hb1⟩
    have M1 := Lib.hid (((Mem.start w).alloc (.cells #[.int .i64 p.mn, .int .i64 p.mx, .int .i64 p.tg, .int .i64 p.tl, .int .i64 p.wi, .int .i64 p.ho] 44)).call hb1)
    clear hb1
    go_wp2
    go_ret
    exact ⟨rfl, M1.out.below⟩
  have hti : Dec.err p l = 0 → I64 (Dec.of p l past).tick := fun h => by
    unfold Dec.of
    rw [if_pos h]
    exact Dec.latest_I64 l (Dec.err_zero h).2 hin
  have f1 := fun W : World => fun h1 : Samps W sp l => fun h2 : Advs W q past => decide_of p hp sp sc l hin (by omega) q cap past hpa (by omega) _ rfl W h1 h2
  have f3 := fun W : World => fun h1 : Advs W q past => decide_now p q cap past (by omega) W h1
  have f5 := fun ht : I64 (Dec.of p l past).tick => fun W : World => fun h1 : Advs W q past => ref14_highest q cap past (Dec.of p l past).tick p.ho ht hp.2.2.2.2.2 (by omega) W h1
  have hz := fun (x : Int) => @Dec.falls p l past x
  obtain ⟨o, eo⟩ : ∃ o, o = Dec.of p l past := ⟨_, rfl⟩
  obtain ⟨er, eer⟩ : ∃ o, o = Dec.err p l := ⟨_, rfl⟩
  obtain ⟨nw, enw⟩ : ∃ o, o = Dec.now p past := ⟨_, rfl⟩
  simp only [← eo, ← eer] at f1 hz f5 hti
  simp only [← enw] at f3
  have hz := hz nw
  obtain ⟨hi, ehi⟩ : ∃ z, z = Adv.highest past (Sat.clamp (o.tick - p.ho)) o.tick := ⟨_, rfl⟩
  simp only [← ehi] at f5 hz
  obtain ⟨hn, hh⟩ := hi
  simp only at f5 hz
  rw [← en] at hb
  rw [← em] at hb2
  simp only [← en] at f1 ⊢
  simp only [← em] at f1 f3 f5 ⊢
  have F1 := Lib.hid f1
  have F3 := Lib.hid f3
  have F5 := Lib.hid f5
  have HS := Lib.hid hs
  have HQ := Lib.hid hq
  have HZ := Lib.hid hz
  have HT := Lib.hid hti
  obtain ⟨tick, load, want, repl, why⟩ := o
  clear f1 f3 f5 hz eo eer enw en em ehi hs hq hin hpa hp hti
  go_enter Try.func7, Try.ntmps7
  go_wp2_with fail
  (with_reducible refine (awake16 _).mono ?_)
  rintro e w1 ⟨rfl, hb1⟩
  have M1 := Lib.hid (((Mem.start w).alloc (.cells #[.int .i64 p.mn, .int .i64 p.mx, .int .i64 p.tg, .int .i64 p.tl, .int .i64 p.wi, .int .i64 p.ho] 44)).call hb1)
  have K0 := Lib.hid (M1.out.heap 0 rfl)
  clear hb1
  go_wp2_with ((with_reducible refine wpList_load_rowAs rfl 44 _ rfl (w.heap.size) ?_ 44 #[.int .i64 p.mn, .int .i64 p.mx, .int .i64 p.tg, .int .i64 p.tl, .int .i64 p.wi, .int .i64 p.ho] (0, 0) _ 6 ?_ Try.underlying44 rfl (by kernel_rfl) ?_ ?_); exact rfl; exact K0.out; exact rfl)
  (with_reducible refine (F1.out _ (HS.out.below M1.out.below) (HQ.out.below M1.out.below)).mono ?_)
  rintro e w2 ⟨rfl, hb2⟩
  have M2 := Lib.hid ((M1.out.call hb2).alloc (.cells #[.int .i64 tick, .int .i64 load, .int .i64 want, .int .i64 repl, .int .i64 why] 24))
  have K2 := Lib.hid (M2.out.heap 0 rfl)
  clear hb2 M1 K0
  go_wp2_with (first | ((with_reducible refine wpList_store_rowAs rfl 24 _ _ rfl (w2.heap.size) #[.int .i64 tick, .int .i64 load, .int .i64 want, .int .i64 repl, .int .i64 why] ?_ ?_ 24 #[.int .i64 0, .int .i64 0, .int .i64 0, .int .i64 0, .int .i64 0] 5 ?_ (by kernel_rfl) rfl rfl (by simp [Value.oneCell']) ?_); exact rfl; exact rfl; exact (heap_alloc_at _ _ _ rfl); (first | rw [row_1_0] | rw [row_2_0] | rw [row_2_1] | rw [row_3_0] | rw [row_3_1] | rw [row_3_2] | rw [row_4_0] | rw [row_4_1] | rw [row_4_2] | rw [row_4_3] | rw [row_5_0] | rw [row_5_1] | rw [row_5_2] | rw [row_5_3] | rw [row_5_4] | rw [row_6_0] | rw [row_6_1] | rw [row_6_2] | rw [row_6_3] | rw [row_6_4] | rw [row_6_5] | simp only [setRow_alloc_past, setRow_alloc_at, World.size_alloc, Nat.add_assoc, Nat.reduceAdd, Nat.lt_add_right_iff_pos, Nat.add_lt_add_iff_left, Nat.reduceLT, Nat.zero_lt_succ, Nat.lt_add_one])) | ((with_reducible refine wpList_load_rowAs rfl 44 _ rfl (w.heap.size) ?_ 44 #[.int .i64 p.mn, .int .i64 p.mx, .int .i64 p.tg, .int .i64 p.tl, .int .i64 p.wi, .int .i64 p.ho] (0, 0) _ 6 ?_ Try.underlying44 rfl (by kernel_rfl) ?_ ?_); exact rfl; exact K2.out; exact rfl))
  (with_reducible refine (F3.out _ (HQ.out.below M2.out.below)).mono ?_)
  rintro e w3 ⟨rfl, hb3⟩
  have M3 := Lib.hid (M2.out.call hb3)
  clear hb3 M2 K2
  have c0 := M3.out.cell 0 0 rfl rfl
  have c1 := M3.out.cell 0 1 rfl rfl
  have c5 := M3.out.cell 0 5 rfl rfl
  have t0 := M3.out.cell 1 0 rfl rfl
  have t3 := M3.out.cell 1 3 rfl rfl
  by_cases e0 : er = 0
  · subst e0
    by_cases e1 : nw < p.mn
    · have d1 : decide (nw < p.mn) = true := decide_eq_true e1
      go_wp2
      go_ret
      exact ⟨rfl, M3.out.below⟩
    have d1 : decide (nw < p.mn) = false := decide_eq_false e1
    by_cases e2 : p.mx < nw
    · have d2 : decide (p.mx < nw) = true := decide_eq_true e2
      go_wp2
      go_ret
      exact ⟨rfl, M3.out.below⟩
    have d2 : decide (p.mx < nw) = false := decide_eq_false e2
    by_cases e3 : nw ≤ repl
    · have d3 : decide (nw ≤ repl) = true := decide_eq_true e3
      go_wp2
      go_ret
      exact ⟨rfl, M3.out.below⟩
    have d3 : decide (nw ≤ repl) = false := decide_eq_false e3
    have G5 := Lib.hid (F5.out (HT.out rfl))
    have HZ2 := Lib.hid (HZ.out rfl (by omega) (by omega) (by show repl < nw; omega))
    clear HZ F5
    go_wp2_with fail
    (with_reducible refine (G5.out _ (HQ.out.below M3.out.below)).mono ?_)
    rintro e w4 ⟨rfl, hb4⟩
    have M4 := Lib.hid (M3.out.call hb4)
    clear hb4 c0 c1 c5 t0 t3 M3
    cases hh with
    | false =>
      go_wp2
      go_ret
      exact ⟨rfl, M4.out.below⟩
    | true =>
      have d4 : decide (hn < nw) = true := decide_eq_true (HZ2.out rfl)
      go_wp2
      go_ret
      exact ⟨rfl, M4.out.below⟩
  · have d1 : (er == 0) = false := beq_eq_false_iff_ne.2 e0
    have d2 : (er != 0) = true := by simpa using e0
    go_wp2
    go_ret
    exact ⟨rfl, M3.out.below⟩

set_option maxHeartbeats 1000000 in
set_option maxRecDepth 100000 in
theorem decideWindow_walk (p : Pol) (hp : p.In) (sp : Option Addr) (sc : Nat) (l : List Samp) (hin : ∀ a ∈ l, a.In) (hb : l.length ≤ 9223372036854775807) (q : Option Addr) (cap : Nat) (past : List Adv) (hpa : ∀ a ∈ past, a.In) (hb2 : past.length ≤ 9223372036854775807)
    (w : World) (hs : Samps w sp l) (hq : Advs w q past) :
    Calls Try.prog 6 #[.agg #[.int .i64 p.mn, .int .i64 p.mx, .int .i64 p.tg, .int .i64 p.tl, .int .i64 p.wi, .int .i64 p.ho], .slice sp l.length sc, .slice q past.length cap] w fun e w' => e = .returned (.bool true) ∧ Below w.heap.size w w' := by
  have hr := ref_polRight p
  obtain ⟨n, en⟩ : ∃ n, n = l.length := ⟨_, rfl⟩
  obtain ⟨m, em⟩ : ∃ n, n = past.length := ⟨_, rfl⟩
  by_cases h1 : 40 < n ∨ 40 < m ∨ n = 0
  · rw [← en] at hb ⊢
    rw [← em] at hb2 ⊢
    clear en em hs hq hin hpa hr
    by_cases h1a : 40 < n
    · clear h1
      go_enter Try.func6, Try.ntmps6
      go_wp2_with fail
      (with_reducible refine (awake16 _).mono ?_)
      rintro e w1 ⟨rfl, hb1⟩
      have M1 := Lib.hid (((Mem.start w).alloc (.cells #[.int .i64 p.mn, .int .i64 p.mx, .int .i64 p.tg, .int .i64 p.tl, .int .i64 p.wi, .int .i64 p.ho] 44)).call hb1)
      clear hb1
      go_wp2
      go_ret
      exact ⟨rfl, M1.out.below⟩
    by_cases h1b : 40 < m
    · clear h1
      go_enter Try.func6, Try.ntmps6
      go_wp2_with fail
      (with_reducible refine (awake16 _).mono ?_)
      rintro e w1 ⟨rfl, hb1⟩
      have M1 := Lib.hid (((Mem.start w).alloc (.cells #[.int .i64 p.mn, .int .i64 p.mx, .int .i64 p.tg, .int .i64 p.tl, .int .i64 p.wi, .int .i64 p.ho] 44)).call hb1)
      clear hb1
      go_wp2
      go_ret
      exact ⟨rfl, M1.out.below⟩
    obtain rfl : n = 0 := by omega
    clear h1 h1a
    go_enter Try.func6, Try.ntmps6
    go_wp2_with fail
    (with_reducible refine (awake16 _).mono ?_)
    rintro e w1 ⟨rfl, hb1⟩
    have M1 := Lib.hid (((Mem.start w).alloc (.cells #[.int .i64 p.mn, .int .i64 p.mx, .int .i64 p.tg, .int .i64 p.tl, .int .i64 p.wi, .int .i64 p.ho] 44)).call hb1)
    clear hb1
    go_wp2
    go_ret
    exact ⟨rfl, M1.out.below⟩
  have hn1 : ¬ 40 < n := fun h => h1 (.inl h)
  have hn2 : ¬ 40 < m := fun h => h1 (.inr (.inl h))
  have hn3 : ¬ n = 0 := fun h => h1 (.inr (.inr h))
  have d0 : ((n : Int) == 0) = false := beq_eq_false_iff_ne.2 (by omega)
  have d1 : decide ((40 : Int) < n) = false := decide_eq_false (by omega)
  have d2 : decide ((40 : Int) < m) = false := decide_eq_false (by omega)
  cases hok : p.ok with
  | false =>
    rw [hok] at hr
    rw [← en] at hb ⊢
    rw [← em] at hb2 ⊢
    have HR := Lib.hid hr
    clear en em hs hq hin hpa hr hok hp
    go_enter Try.func6, Try.ntmps6
    go_wp2_with fail
    (with_reducible refine (awake16 _).mono ?_)
    rintro e w1 ⟨rfl, hb1⟩
    have M1 := Lib.hid (((Mem.start w).alloc (.cells #[.int .i64 p.mn, .int .i64 p.mx, .int .i64 p.tg, .int .i64 p.tl, .int .i64 p.wi, .int .i64 p.ho] 44)).call hb1)
    have K0 := Lib.hid (M1.out.heap 0 rfl)
    clear hb1 h1
    go_wp2_with ((with_reducible refine wpList_load_rowG ?_ 44 _ rfl (w.heap.size) ?_ 44 #[.int .i64 p.mn, .int .i64 p.mx, .int .i64 p.tg, .int .i64 p.tl, .int .i64 p.wi, .int .i64 p.ho] (0, 0) _ 6 ?_ Try.underlying44 rfl (by kernel_rfl) ?_ ?_); kernel_rfl; exact rfl; exact K0.out; exact rfl)
    (with_reducible refine (HR.out _).mono ?_)
    rintro e w2 ⟨rfl, hb2⟩
    have M2 := Lib.hid (M1.out.call hb2)
    clear hb2
    go_wp2
    go_ret
    exact ⟨rfl, M2.out.below⟩
  | true =>
    rw [hok] at hr
    have hlat := Dec.latest_I64 l (by omega) hin
    have hwin := @Dec.window p l past hok (by omega)
    have hcin := Samp.cut_In (Win.from (Dec.latest l) p.wi) (Dec.latest l) l hin
    have hcl := Samp.cut_len (Win.from (Dec.latest l) p.wi) (Dec.latest l) l
    have f1 := fun W : World => fun h1 : Samps W sp l => fun h2 : Advs W q past => decide_of p hp sp sc l hin (by omega) q cap past hpa (by omega) _ rfl W h1 h2
    have f2 := fun W : World => fun h1 : Samps W sp l => ref16_latest sp sc l (by omega) (by omega) W h1
    have f3 := ref09_from (Dec.latest l) p.wi hlat hp.2.2.2.2.1
    have f4 := fun W : World => fun h : Samps W sp l => ref09_cut sp sc l (Win.from (Dec.latest l) p.wi) (Dec.latest l) (by omega) W h
    have f5 := fun (s : Option Addr) (c : Nat) (W : World) (h1 : Samps W s (Samp.cut (Win.from (Dec.latest l) p.wi) (Dec.latest l) l)) (h2 : Advs W q past) => decide_of p hp s c _ hcin (by omega) q cap past hpa (by omega) _ rfl W h1 h2
    obtain ⟨fr, efr⟩ : ∃ x, x = Win.from (Dec.latest l) p.wi := ⟨_, rfl⟩
    simp only [← efr] at f3 f4 f5 hcl hwin
    obtain ⟨cu, ecu⟩ : ∃ x, x = Samp.cut fr (Dec.latest l) l := ⟨_, rfl⟩
    simp only [← ecu] at f4 f5 hcl hwin
    obtain ⟨tk, etk⟩ : ∃ x, x = Dec.latest l := ⟨_, rfl⟩
    simp only [← etk] at f2 f3 f4 hwin
    obtain ⟨o, eo⟩ : ∃ o, o = Dec.of p l past := ⟨_, rfl⟩
    obtain ⟨er, eer⟩ : ∃ o, o = Dec.err p l := ⟨_, rfl⟩
    simp only [← eo, ← eer] at f1 hwin
    obtain ⟨o2, eo2⟩ : ∃ o, o = Dec.of p cu past := ⟨_, rfl⟩
    obtain ⟨er2, eer2⟩ : ∃ o, o = Dec.err p cu := ⟨_, rfl⟩
    simp only [← eo2, ← eer2] at f5 hwin
    rw [← en] at hb
    rw [← em] at hb2
    simp only [← en] at f1 f2 f4 ⊢
    simp only [← em] at f1 f5 ⊢
    have HR := Lib.hid hr
    have F1 := Lib.hid f1
    have F2 := Lib.hid f2
    have F3 := Lib.hid f3
    have F4 := Lib.hid f4
    have F5 := Lib.hid f5
    have HS := Lib.hid hs
    have HQ := Lib.hid hq
    have HWN := Lib.hid hwin
    clear f1 f2 f3 f4 f5 hr hok efr ecu etk eo eer eo2 eer2 en em hs hq hin hpa hp hlat hwin hcin hcl h1
    go_enter Try.func6, Try.ntmps6
    go_wp2_with fail
    (with_reducible refine (awake16 _).mono ?_)
    rintro e w1 ⟨rfl, hb1⟩
    have M1 := Lib.hid (((Mem.start w).alloc (.cells #[.int .i64 p.mn, .int .i64 p.mx, .int .i64 p.tg, .int .i64 p.tl, .int .i64 p.wi, .int .i64 p.ho] 44)).call hb1)
    have K0 := Lib.hid (M1.out.heap 0 rfl)
    clear hb1
    go_wp2_with ((with_reducible refine wpList_load_rowG ?_ 44 _ rfl (w.heap.size) ?_ 44 #[.int .i64 p.mn, .int .i64 p.mx, .int .i64 p.tg, .int .i64 p.tl, .int .i64 p.wi, .int .i64 p.ho] (0, 0) _ 6 ?_ Try.underlying44 rfl (by kernel_rfl) ?_ ?_); kernel_rfl; exact rfl; exact K0.out; exact rfl)
    (with_reducible refine (HR.out _).mono ?_)
    rintro e w2 ⟨rfl, hb2⟩
    have M2 := Lib.hid (M1.out.call hb2)
    clear hb2 M1 K0
    go_wp2_with fail
    (with_reducible refine (F2.out _ (HS.out.below M2.out.below)).mono ?_)
    rintro e w3 ⟨rfl, hb3⟩
    have M3 := Lib.hid (M2.out.call hb3)
    clear hb3 M2
    have c4 := M3.out.cell 0 4 rfl rfl
    by_cases hft : tk < fr
    · go_wp2_with ((with_reducible refine (F3.out _).mono ?_); rintro e w4 ⟨rfl, rfl⟩)
      go_ret
      exact ⟨rfl, M3.out.below⟩
    obtain ⟨rfl, rfl⟩ := HWN.out (by omega)
    clear HWN
    obtain ⟨tick, load, want, repl, why⟩ := o2
    have K0 := Lib.hid (M3.out.heap 0 rfl)
    go_wp2_with (first | ((with_reducible refine (F3.out _).mono ?_); rintro e w4 ⟨rfl, rfl⟩) | ((with_reducible refine wpList_load_rowAs rfl 44 _ rfl (w.heap.size) ?_ 44 #[.int .i64 p.mn, .int .i64 p.mx, .int .i64 p.tg, .int .i64 p.tl, .int .i64 p.wi, .int .i64 p.ho] (0, 0) _ 6 ?_ Try.underlying44 rfl (by kernel_rfl) ?_ ?_); exact rfl; exact K0.out; exact rfl))
    (with_reducible refine (F1.out _ (HS.out.below M3.out.below) (HQ.out.below M3.out.below)).mono ?_)
    rintro e w4 ⟨rfl, hb4⟩
    have M4 := Lib.hid ((M3.out.call hb4).alloc (.cells #[.int .i64 tick, .int .i64 load, .int .i64 want, .int .i64 repl, .int .i64 why] 24))
    clear hb4 M3 K0 c4
    go_wp2_with ((with_reducible refine wpList_store_rowAs rfl 24 _ _ rfl (w4.heap.size) #[.int .i64 tick, .int .i64 load, .int .i64 want, .int .i64 repl, .int .i64 why] ?_ ?_ 24 #[.int .i64 0, .int .i64 0, .int .i64 0, .int .i64 0, .int .i64 0] 5 ?_ (by kernel_rfl) rfl rfl (by simp [Value.oneCell']) ?_); exact rfl; exact rfl; exact (heap_alloc_at _ _ _ rfl); (first | rw [row_1_0] | rw [row_2_0] | rw [row_2_1] | rw [row_3_0] | rw [row_3_1] | rw [row_3_2] | rw [row_4_0] | rw [row_4_1] | rw [row_4_2] | rw [row_4_3] | rw [row_5_0] | rw [row_5_1] | rw [row_5_2] | rw [row_5_3] | rw [row_5_4] | rw [row_6_0] | rw [row_6_1] | rw [row_6_2] | rw [row_6_3] | rw [row_6_4] | rw [row_6_5] | simp only [setRow_alloc_past, setRow_alloc_at, World.size_alloc, Nat.add_assoc, Nat.reduceAdd, Nat.lt_add_right_iff_pos, Nat.add_lt_add_iff_left, Nat.reduceLT, Nat.zero_lt_succ, Nat.lt_add_one]))
    have hst := stab_and (stab_and (stab_mem (w := w) (bs := [(w.heap.size, .cells #[.int .i64 p.mn, .int .i64 p.mx, .int .i64 p.tg, .int .i64 p.tl, .int .i64 p.wi, .int .i64 p.ho] 44), (w4.heap.size, .cells #[.int .i64 tick, .int .i64 load, .int .i64 want, .int .i64 repl, .int .i64 why] 24)])) (stab_advs (q := q) (l := past))) (stab_samps (q := sp) (l := l))
    refine wp_region_E mixed [14] hst ⟨⟨M4.out.drewN 1, HQ.out.below (M4.out.drewN 1).below⟩, HS.out.below (M4.out.drewN 1).below⟩ ?_
    refine wpAnyE_take 0 (v := .agg #[.int .i64 p.mn, .int .i64 p.mx, .int .i64 p.tg, .int .i64 p.tl, .int .i64 p.wi, .int .i64 p.ho]) rfl (by kernel_rfl) (by kernel_rfl) (by kernel_rfl) (fun _ _ _ h => h) hst (EffB.run rfl rfl (fun wd hS => ?_)) (.inl (by kernel_rfl)) ?_
    · exact wp_load_row 44 _ rfl (w.heap.size) rfl 44 #[.int .i64 p.mn, .int .i64 p.mx, .int .i64 p.tg, .int .i64 p.tl, .int .i64 p.wi, .int .i64 p.ho] (0, 0) _ (hS.1.1.heap 0 rfl) Try.underlying44 rfl (by kernel_rfl) ⟨rfl, Below.refl _ _⟩
    simp only [act_norm]
    refine wpAnyE_take 1 rfl (by kernel_rfl) (by kernel_rfl) (by kernel_rfl) (fun _ _ _ h => h) hst (EffB.pure rfl (fun _ => rfl)) (.inr (EffB.pure rfl (fun _ => rfl))) ?_
    simp only [act_norm]
    refine wpAnyE_take 2 rfl (by kernel_rfl) (by kernel_rfl) (by kernel_rfl) (fun _ _ _ h => h) hst (EffB.pure rfl (fun _ => rfl)) (.inr (EffB.pure rfl (fun _ => rfl))) ?_
    simp only [act_norm]
    refine wpAnyE_take 3 (v := .pointer (some ⟨w.heap.size, 4, none⟩)) rfl (by kernel_rfl) (by kernel_rfl) (by kernel_rfl) (fun _ _ _ h => h) hst (EffB.run rfl rfl (fun wd hS => ?_)) (.inr (EffB.run rfl rfl (fun wd hS => ?_))) ?_
    · (go_wp2; exact ⟨rfl, Below.refl _ _⟩)
    · (go_wp2; exact ⟨rfl, Below.refl _ _⟩)
    simp only [act_norm]
    refine wpAnyE_take 4 (v := .int .i64 p.wi) rfl (by kernel_rfl) (by kernel_rfl) (by kernel_rfl) (fun _ _ _ h => h) hst (EffB.run rfl rfl (fun wd hS => ?_)) (.inl (by kernel_rfl)) ?_
    · (have c2 : wd.cell? ⟨w.heap.size, 4, none⟩ = some (.int .i64 p.wi) := by rw [cell_of_row _ _ _ _ _ _ (hS.1.1.heap 0 rfl)]; rfl); go_wp2; exact ⟨rfl, Below.refl _ _⟩
    simp only [act_norm]
    refine wpAnyE_take 5 (v := .int .i64 fr) rfl (by kernel_rfl) (by kernel_rfl) (by kernel_rfl) (fun _ _ _ h => h) hst (EffB.run rfl rfl (fun wd hS => ?_)) (.inl (by kernel_rfl)) ?_
    · (go_wp2_with fail; (with_reducible refine (F3.out wd).mono ?_); rintro e w'' ⟨rfl, rfl⟩; exact ⟨rfl, Below.refl _ _⟩)
    simp only [act_norm]
    refine wpAnyE_take 6 rfl (by kernel_rfl) (by kernel_rfl) (by kernel_rfl) (fun _ _ _ h => h) hst (EffB.pure rfl (fun _ => rfl)) (.inr (EffB.pure rfl (fun _ => rfl))) ?_
    simp only [act_norm]
    refine wpAnyE_take 8 rfl (by kernel_rfl) (by kernel_rfl) (by kernel_rfl) (fun _ _ _ h => h) hst (EffB.pure rfl (fun _ => rfl)) (.inr (EffB.pure rfl (fun _ => rfl))) ?_
    simp only [act_norm]
    refine wpAnyE_two 7 13 rfl rfl (by kernel_rfl) rfl rfl (fun wd hS => ?_) (fun wd hS => ?_)
    · go_wp2_with fail
      (with_reducible refine (F4.out _ hS.2).mono ?_)
      rintro e w5 ⟨u, rfl, hO, hb5⟩
      obtain ⟨q1, c1, rfl, _, hq1⟩ := samps_of_owns hO
      have hst2 := stab_and hst (stab_samps (q := q1) (l := cu))
      refine ⟨_, ⟨hst _ _ hS hb5, hq1⟩, hst2, (by first | exact fun _ h => h.1 | exact .inr fun _ h => h.1), ?_⟩
      try simp only [act_norm]
      clear hO hb5 hS hst hq1
      have hst := hst2
      refine wpAnyE_take 9 (v := .tuple #[.agg #[.int .i64 tick, .int .i64 load, .int .i64 want, .int .i64 repl, .int .i64 why], .int .i64 er2]) rfl (by kernel_rfl) (by kernel_rfl) (by kernel_rfl) (fun _ _ _ h => h) hst (EffB.run rfl rfl (fun wd hS => ?_)) (.inl (by kernel_rfl)) ?_
      · (go_wp2_with fail; (with_reducible refine (F5.out _ _ wd hS.2 hS.1.1.2).mono ?_); rintro e w'' ⟨rfl, hb⟩; exact ⟨rfl, hb⟩)
      simp only [act_norm]
      refine wpAnyE_take 10 rfl (by kernel_rfl) (by kernel_rfl) (by kernel_rfl) (fun _ _ _ h => h) hst (EffB.pure rfl (fun _ => rfl)) (.inr (EffB.pure rfl (fun _ => rfl))) ?_
      simp only [act_norm]
      refine wpAnyE_take 11 (v := .agg #[.int .i64 tick, .int .i64 load, .int .i64 want, .int .i64 repl, .int .i64 why]) rfl (by kernel_rfl) (by kernel_rfl) (by kernel_rfl) (fun _ _ _ h => h) hst (EffB.run rfl rfl (fun wd hS => ?_)) (.inr (EffB.run rfl rfl (fun wd hS => ?_))) ?_
      · (go_wp2; exact ⟨rfl, Below.refl _ _⟩)
      · (go_wp2; exact ⟨rfl, Below.refl _ _⟩)
      simp only [act_norm]
      refine wpAnyE_take 12 (v := .int .i64 er2) rfl (by kernel_rfl) (by kernel_rfl) (by kernel_rfl) (fun _ _ _ h => h) hst (EffB.run rfl rfl (fun wd hS => ?_)) (.inr (EffB.run rfl rfl (fun wd hS => ?_))) ?_
      · (go_wp2; exact ⟨rfl, Below.refl _ _⟩)
      · (go_wp2; exact ⟨rfl, Below.refl _ _⟩)
      simp only [act_norm]
      refine wpAnyE_one 13 rfl (by kernel_rfl) rfl (fun wd hS => ?_)
      go_wp2
      have hst2 := stab_and (stab_and (stab_and (stab_mem (w := w) (bs := [(w.heap.size, .cells #[.int .i64 p.mn, .int .i64 p.mx, .int .i64 p.tg, .int .i64 p.tl, .int .i64 p.wi, .int .i64 p.ho] 44), (w4.heap.size, .cells #[.int .i64 tick, .int .i64 load, .int .i64 want, .int .i64 repl, .int .i64 why] 24), (wd.heap.size, .cells #[.int .i64 0, .int .i64 0, .int .i64 0, .int .i64 0, .int .i64 0] 24)])) (stab_advs (q := q) (l := past))) (stab_samps (q := sp) (l := l))) (stab_samps (q := q1) (l := cu))
      refine ⟨_, ⟨⟨⟨hS.1.1.1.alloc _, hS.1.1.2.below (below1 _ _)⟩, hS.1.2.below (below1 _ _)⟩, hS.2.below (below1 _ _)⟩, hst2, (by first | exact fun w' h => ⟨⟨⟨h.1.1.1.init, h.1.1.2⟩, h.1.2⟩, h.2⟩ | exact .inr fun w' h => ⟨⟨⟨h.1.1.1.init, h.1.1.2⟩, h.1.2⟩, h.2⟩), ?_⟩
      try simp only [act_norm]
      obtain ⟨X, hX⟩ : ∃ X, X = wd.heap.size := ⟨_, rfl⟩
      rw [← hX] at hst2 ⊢
      clear hS hst hX
      have hst := hst2
      refine wpAnyE_one 14 rfl (by kernel_rfl) rfl (fun wd2 hS => ?_)
      have KX := Lib.hid (hS.1.1.1.heap 2 rfl)
      refine wp_store_row 24 _ _ rfl X #[.int .i64 tick, .int .i64 load, .int .i64 want, .int .i64 repl, .int .i64 why] rfl rfl 24 #[.int .i64 0, .int .i64 0, .int .i64 0, .int .i64 0, .int .i64 0] KX.out advSize rfl (by simp [Value.oneCell']) ?_
      have hst4 := stab_mem (w := w) (bs := [(w.heap.size, .cells #[.int .i64 p.mn, .int .i64 p.mx, .int .i64 p.tg, .int .i64 p.tl, .int .i64 p.wi, .int .i64 p.ho] 44), (w4.heap.size, .cells #[.int .i64 tick, .int .i64 load, .int .i64 want, .int .i64 repl, .int .i64 why] 24), (X, .cells #[.int .i64 tick, .int .i64 load, .int .i64 want, .int .i64 repl, .int .i64 why] 24)])
      refine ⟨_, hS.1.1.1.setRow 2 (cs := #[.int .i64 tick, .int .i64 load, .int .i64 want, .int .i64 repl, .int .i64 why]) rfl, hst4, .inl (by simp), ?_⟩
      simp only [act_norm]
      clear hS hst
      have hst := hst4
      refine wpAnyE_take 15 rfl (by kernel_rfl) (by kernel_rfl) (by kernel_rfl) (fun _ _ _ h => h) hst (EffB.pure rfl (fun _ => rfl)) (.inr (EffB.pure rfl (fun _ => rfl))) ?_
      simp only [act_norm]
      refine wpAnyE_done (by kernel_rfl) (fun wd hS => ?_) _
      have K1 := Lib.hid (hS.heap 1 rfl)
      have K2 := Lib.hid (hS.heap 2 rfl)
      have MF := Lib.hid hS
      clear hS hst hst4 hst2 KX M4
      go_wp2_with (first | ((with_reducible refine wpList_load_rowAs rfl 24 _ rfl (w4.heap.size) ?_ 24 #[.int .i64 tick, .int .i64 load, .int .i64 want, .int .i64 repl, .int .i64 why] (0, 0) _ 5 ?_ Try.underlying24 rfl (by kernel_rfl) ?_ ?_); exact rfl; exact K1.out; exact rfl) | ((with_reducible refine wpList_load_rowAs rfl 24 _ rfl (X) ?_ 24 #[.int .i64 tick, .int .i64 load, .int .i64 want, .int .i64 repl, .int .i64 why] (0, 0) _ 5 ?_ Try.underlying24 rfl (by kernel_rfl) ?_ ?_); exact rfl; exact K2.out; exact rfl) | (with_reducible refine wpList_eql_agg rfl _ _ _ _ rfl _ _ rfl rfl true (by kernel_rfl) (adv_equal_yes ⟨tick, load, want, repl, why⟩ _) ?_))
      go_ret
      exact ⟨rfl, MF.out.below⟩
    · go_wp2
      have hst2 := stab_and (stab_and (stab_mem (w := w) (bs := [(w.heap.size, .cells #[.int .i64 p.mn, .int .i64 p.mx, .int .i64 p.tg, .int .i64 p.tl, .int .i64 p.wi, .int .i64 p.ho] 44), (w4.heap.size, .cells #[.int .i64 tick, .int .i64 load, .int .i64 want, .int .i64 repl, .int .i64 why] 24), (wd.heap.size, .cells #[.int .i64 0, .int .i64 0, .int .i64 0, .int .i64 0, .int .i64 0] 24)])) (stab_advs (q := q) (l := past))) (stab_samps (q := sp) (l := l))
      refine ⟨_, ⟨⟨hS.1.1.alloc _, hS.1.2.below (below1 _ _)⟩, hS.2.below (below1 _ _)⟩, hst2, (by first | exact fun w' h => ⟨⟨h.1.1.init, h.1.2⟩, h.2⟩ | exact .inr fun w' h => ⟨⟨h.1.1.init, h.1.2⟩, h.2⟩), ?_⟩
      try simp only [act_norm]
      obtain ⟨X, hX⟩ : ∃ X, X = wd.heap.size := ⟨_, rfl⟩
      rw [← hX] at hst2 ⊢
      clear hS hst hX
      refine wpAnyE_one 7 rfl (by kernel_rfl) rfl (fun wd2 hS => ?_)
      go_wp2_with fail
      (with_reducible refine (F4.out _ hS.2).mono ?_)
      rintro e w5 ⟨u, rfl, hO, hb5⟩
      obtain ⟨q1, c1, rfl, _, hq1⟩ := samps_of_owns hO
      have hst := stab_and hst2 (stab_samps (q := q1) (l := cu))
      refine ⟨_, ⟨hst2 _ _ hS hb5, hq1⟩, hst, (by first | exact fun _ h => h.1 | exact .inr fun _ h => h.1), ?_⟩
      try simp only [act_norm]
      clear hO hb5 hS hst2 hq1
      refine wpAnyE_take 9 (v := .tuple #[.agg #[.int .i64 tick, .int .i64 load, .int .i64 want, .int .i64 repl, .int .i64 why], .int .i64 er2]) rfl (by kernel_rfl) (by kernel_rfl) (by kernel_rfl) (fun _ _ _ h => h) hst (EffB.run rfl rfl (fun wd hS => ?_)) (.inl (by kernel_rfl)) ?_
      · (go_wp2_with fail; (with_reducible refine (F5.out _ _ wd hS.2 hS.1.1.2).mono ?_); rintro e w'' ⟨rfl, hb⟩; exact ⟨rfl, hb⟩)
      simp only [act_norm]
      refine wpAnyE_take 10 rfl (by kernel_rfl) (by kernel_rfl) (by kernel_rfl) (fun _ _ _ h => h) hst (EffB.pure rfl (fun _ => rfl)) (.inr (EffB.pure rfl (fun _ => rfl))) ?_
      simp only [act_norm]
      refine wpAnyE_take 11 (v := .agg #[.int .i64 tick, .int .i64 load, .int .i64 want, .int .i64 repl, .int .i64 why]) rfl (by kernel_rfl) (by kernel_rfl) (by kernel_rfl) (fun _ _ _ h => h) hst (EffB.run rfl rfl (fun wd hS => ?_)) (.inr (EffB.run rfl rfl (fun wd hS => ?_))) ?_
      · (go_wp2; exact ⟨rfl, Below.refl _ _⟩)
      · (go_wp2; exact ⟨rfl, Below.refl _ _⟩)
      simp only [act_norm]
      refine wpAnyE_take 12 (v := .int .i64 er2) rfl (by kernel_rfl) (by kernel_rfl) (by kernel_rfl) (fun _ _ _ h => h) hst (EffB.run rfl rfl (fun wd hS => ?_)) (.inr (EffB.run rfl rfl (fun wd hS => ?_))) ?_
      · (go_wp2; exact ⟨rfl, Below.refl _ _⟩)
      · (go_wp2; exact ⟨rfl, Below.refl _ _⟩)
      simp only [act_norm]
      refine wpAnyE_one 14 rfl (by kernel_rfl) rfl (fun wd2 hS => ?_)
      have KX := Lib.hid (hS.1.1.1.heap 2 rfl)
      refine wp_store_row 24 _ _ rfl X #[.int .i64 tick, .int .i64 load, .int .i64 want, .int .i64 repl, .int .i64 why] rfl rfl 24 #[.int .i64 0, .int .i64 0, .int .i64 0, .int .i64 0, .int .i64 0] KX.out advSize rfl (by simp [Value.oneCell']) ?_
      have hst4 := stab_mem (w := w) (bs := [(w.heap.size, .cells #[.int .i64 p.mn, .int .i64 p.mx, .int .i64 p.tg, .int .i64 p.tl, .int .i64 p.wi, .int .i64 p.ho] 44), (w4.heap.size, .cells #[.int .i64 tick, .int .i64 load, .int .i64 want, .int .i64 repl, .int .i64 why] 24), (X, .cells #[.int .i64 tick, .int .i64 load, .int .i64 want, .int .i64 repl, .int .i64 why] 24)])
      refine ⟨_, hS.1.1.1.setRow 2 (cs := #[.int .i64 tick, .int .i64 load, .int .i64 want, .int .i64 repl, .int .i64 why]) rfl, hst4, .inl (by simp), ?_⟩
      simp only [act_norm]
      clear hS hst
      have hst := hst4
      refine wpAnyE_take 15 rfl (by kernel_rfl) (by kernel_rfl) (by kernel_rfl) (fun _ _ _ h => h) hst (EffB.pure rfl (fun _ => rfl)) (.inr (EffB.pure rfl (fun _ => rfl))) ?_
      simp only [act_norm]
      refine wpAnyE_done (by kernel_rfl) (fun wd hS => ?_) _
      have K1 := Lib.hid (hS.heap 1 rfl)
      have K2 := Lib.hid (hS.heap 2 rfl)
      have MF := Lib.hid hS
      clear hS hst hst4 KX M4
      go_wp2_with (first | ((with_reducible refine wpList_load_rowAs rfl 24 _ rfl (w4.heap.size) ?_ 24 #[.int .i64 tick, .int .i64 load, .int .i64 want, .int .i64 repl, .int .i64 why] (0, 0) _ 5 ?_ Try.underlying24 rfl (by kernel_rfl) ?_ ?_); exact rfl; exact K1.out; exact rfl) | ((with_reducible refine wpList_load_rowAs rfl 24 _ rfl (X) ?_ 24 #[.int .i64 tick, .int .i64 load, .int .i64 want, .int .i64 repl, .int .i64 why] (0, 0) _ 5 ?_ Try.underlying24 rfl (by kernel_rfl) ?_ ?_); exact rfl; exact K2.out; exact rfl) | (with_reducible refine wpList_eql_agg rfl _ _ _ _ rfl _ _ rfl rfl true (by kernel_rfl) (adv_equal_yes ⟨tick, load, want, repl, why⟩ _) ?_))
      go_ret
      exact ⟨rfl, MF.out.below⟩
end Go.Proofs.Ytcinfpgpldmkaaa
