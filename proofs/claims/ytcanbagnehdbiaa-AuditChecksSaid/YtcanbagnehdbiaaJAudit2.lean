/- Layer 48: which rule a decision breaks, by the reference; the law. -/
import Derived.Test.YtcanbagnehdbiaaJAudit
namespace Go.Proofs.Ytcanbagnehdbiaa
open Go.ChangeShapes Go.WideShapes Go.ChangeAt Go.RowKit

set_option maxHeartbeats 4000000 in
set_option maxRecDepth 100000 in
theorem ref48_rule (p : Pol) (hp : p.In) (q : Option Addr) (cap : Nat) (past : List Adv) (hb : past.length ≤ 100000) (a : Adv) (ha : a.In) (w : World) (hq : Advs w q past) :
    Calls Try.prog 64 #[.agg #[.int .i64 p.mn, .int .i64 p.mx, .int .i64 p.tg, .int .i64 p.tl, .int .i64 p.wi, .int .i64 p.ho], .slice q past.length cap, .agg #[.int .i64 a.tick, .int .i64 a.load, .int .i64 a.want, .int .i64 a.repl, .int .i64 a.why]] w fun e w' => e = .returned (.int .i64 (Aud.rule p past a)) ∧ Below w.heap.size w w' := by
  have f0 := ref_polRight p
  have f1 := fun W : World => fun h : Advs W q past => ref16_now p q cap past (by omega) W h
  have f2 := fun W : World => fun h : Advs W q past => ref15_of p hp a.tick a.want ha.1 q cap past (by omega) W h
  have f3 := ref13_open p hp a.load (Dec.now p past) ha.2.1
  have f4 := ref13_bound p (p.open' a.load (Dec.now p past))
  rw [show p.bound (p.open' a.load (Dec.now p past)) = p.raw a.load (Dec.now p past) from (Pol.raw_open p _ _).symm] at f4
  have f5 := ref13_bound p (Adv.held p a.tick a.want past).1
  have hhas : Aud.has p a.repl = (p.ok && decide (p.mn ≤ a.repl) && decide (a.repl ≤ p.mx)) := rfl
  have hmv : Aud.moved a.why a.repl (Dec.now p past) = if a.why = 2 then decide (Dec.now p past < a.repl) else if a.why = 3 then decide (a.repl < Dec.now p past) else if a.why = 1 then a.repl == Dec.now p past else true := rfl
  have hr : Aud.rule p past a = Aud.rule' a.why (Aud.has p a.repl) a.want (p.raw a.load (Dec.now p past)) a.repl (p.bound (Adv.held p a.tick a.want past).1) (Adv.held p a.tick a.want past).2 (Aud.moved a.why a.repl (Dec.now p past)) := rfl
  obtain ⟨r, er⟩ : ∃ x, x = Aud.rule p past a := ⟨_, rfl⟩
  rw [← er] at hr ⊢
  obtain ⟨now, enow⟩ : ∃ x, x = Dec.now p past := ⟨_, rfl⟩
  obtain ⟨hd, ehd⟩ : ∃ x, x = Adv.held p a.tick a.want past := ⟨_, rfl⟩
  obtain ⟨hs, ehs⟩ : ∃ x, x = Aud.has p a.repl := ⟨_, rfl⟩
  simp only [← enow] at f1 f3 f4 hr hmv
  simp only [← ehd] at f2 f5 hr
  rw [← ehs] at hhas hr
  obtain ⟨rw', erw⟩ : ∃ x, x = p.raw a.load now := ⟨_, rfl⟩
  obtain ⟨mv, emv⟩ : ∃ x, x = Aud.moved a.why a.repl now := ⟨_, rfl⟩
  obtain ⟨op, eop⟩ : ∃ x, x = p.open' a.load now := ⟨_, rfl⟩
  rw [← erw] at f4 hr
  rw [← emv] at hmv hr
  rw [← eop] at f3 f4
  obtain ⟨hn, hh⟩ := hd
  simp only at f2 f5 hr
  obtain ⟨bd, ebd⟩ : ∃ x, x = p.bound hn := ⟨_, rfl⟩
  rw [← ebd] at f5 hr
  obtain ⟨ok, eok⟩ : ∃ x, x = p.ok := ⟨_, rfl⟩
  rw [← eok] at f0 hhas
  obtain ⟨m, em⟩ : ∃ n, n = past.length := ⟨_, rfl⟩
  simp only [← em] at f1 f2 ⊢
  obtain ⟨tick, load, want, repl, why⟩ := a
  simp only at f2 f3 hr hhas hmv ⊢
  have F0 := Lib.hid f0
  have F1 := Lib.hid f1
  have F2 := Lib.hid f2
  have F3 := Lib.hid f3
  have F4 := Lib.hid f4
  have F5 := Lib.hid f5
  have HQ := Lib.hid hq
  unfold Aud.rule' at hr
  have HHAS := Lib.hid hhas
  have HMV := Lib.hid hmv
  clear f0 f1 f2 f3 f4 f5 er enow ehd ehs erw emv ebd eop eok em hq hb ha hp hhas hmv
  have HR := Lib.hid hr
  clear hr
  by_cases t1 : why < 1
  · have d1 : decide (why < 1) = true := decide_eq_true t1
    have HE := Lib.hid (HR.out.trans (if_pos (.inl t1)))
    go_enter Try.func64, Try.ntmps64
    go_wp2
    go_ret
    exact ⟨ret_int HE.out.symm, below2 _ _ _⟩
  have d1 : decide (why < 1) = false := decide_eq_false t1
  by_cases t2 : 6 < why
  · have d2 : decide (6 < why) = true := decide_eq_true t2
    have HE := Lib.hid (HR.out.trans (if_pos (.inr t2)))
    go_enter Try.func64, Try.ntmps64
    go_wp2
    go_ret
    exact ⟨ret_int HE.out.symm, below2 _ _ _⟩
  have d2 : decide (6 < why) = false := decide_eq_false t2
  have H1 := Lib.hid (HR.out.trans (if_neg (by omega)))
  clear HR
  go_enter Try.func64, Try.ntmps64
  go_wp2_with ((with_reducible refine wpList_load_rowAs rfl 23 _ rfl (w.heap.size) ?_ 23 #[.int .i64 p.mn, .int .i64 p.mx, .int .i64 p.tg, .int .i64 p.tl, .int .i64 p.wi, .int .i64 p.ho] (0, 0) _ 6 ?_ Try.underlying23 rfl (by kernel_rfl) ?_ ?_); exact rfl; exact (by first | (with_reducible exact heap_1_0 _ _) | (with_reducible exact heap_2_0 _ _ _) | (with_reducible exact heap_2_1 _ _ _) | (with_reducible exact heap_3_0 _ _ _ _) | (with_reducible exact heap_3_1 _ _ _ _) | (with_reducible exact heap_3_2 _ _ _ _) | (with_reducible exact heap_4_0 _ _ _ _ _) | (with_reducible exact heap_4_1 _ _ _ _ _) | (with_reducible exact heap_4_2 _ _ _ _ _) | (with_reducible exact heap_4_3 _ _ _ _ _) | (with_reducible exact heap_5_0 _ _ _ _ _ _) | (with_reducible exact heap_5_1 _ _ _ _ _ _) | (with_reducible exact heap_5_2 _ _ _ _ _ _) | (with_reducible exact heap_5_3 _ _ _ _ _ _) | (with_reducible exact heap_5_4 _ _ _ _ _ _) | (with_reducible exact heap_6_0 _ _ _ _ _ _ _) | (with_reducible exact heap_6_1 _ _ _ _ _ _ _) | (with_reducible exact heap_6_2 _ _ _ _ _ _ _) | (with_reducible exact heap_6_3 _ _ _ _ _ _ _) | (with_reducible exact heap_6_4 _ _ _ _ _ _ _) | (with_reducible exact heap_6_5 _ _ _ _ _ _ _) | simp only [heap_alloc_past, heap_alloc_at, World.size_alloc, Nat.add_assoc, Nat.reduceAdd, Nat.lt_add_right_iff_pos, Nat.add_lt_add_iff_left, Nat.reduceLT, Nat.zero_lt_succ, Nat.lt_add_one]); exact rfl)
  (with_reducible refine (F0.out _).mono ?_)
  rintro e w2 ⟨rfl, hb2⟩
  have M2 := Lib.hid ((((Mem.start w).alloc (.cells #[.int .i64 p.mn, .int .i64 p.mx, .int .i64 p.tg, .int .i64 p.tl, .int .i64 p.wi, .int .i64 p.ho] 23)).allocAs (w.heap.size + 1) (.cells #[.int .i64 tick, .int .i64 load, .int .i64 want, .int .i64 repl, .int .i64 why] 56) (by simp)).call hb2)
  clear hb2 t1 t2 d1 d2
  have c3 := M2.out.cell 1 3 rfl rfl
  have c0 := M2.out.cell 0 0 rfl rfl
  have c1 := M2.out.cell 0 1 rfl rfl
  by_cases th : hs = false
  · have HE := Lib.hid (H1.out.trans (if_pos th))
    cases ok with
    | false =>
      go_wp2
      go_ret
      exact ⟨ret_int HE.out.symm, M2.out.below⟩
    | true =>
      have hx := HHAS.out
      rw [th] at hx
      by_cases t5 : repl < p.mn
      · have d5 : decide (repl < p.mn) = true := decide_eq_true t5
        clear hx
        go_wp2
        go_ret
        exact ⟨ret_int HE.out.symm, M2.out.below⟩
      · have d5 : decide (repl < p.mn) = false := decide_eq_false t5
        have t6 : p.mx < repl := by
          by_cases t7 : repl ≤ p.mx
          · rw [decide_eq_true t7, decide_eq_true (show p.mn ≤ repl by omega)] at hx; simp at hx
          · omega
        have d6 : decide (p.mx < repl) = true := decide_eq_true t6
        clear hx
        go_wp2
        go_ret
        exact ⟨ret_int HE.out.symm, M2.out.below⟩
  have H2 := Lib.hid (H1.out.trans (if_neg th))
  have hx := HHAS.out
  obtain rfl : hs = true := by simpa using th
  have hy : ok = true ∧ p.mn ≤ repl ∧ repl ≤ p.mx := by
    have := hx.symm
    simp only [Bool.and_eq_true, decide_eq_true_eq] at this
    exact ⟨this.1.1, this.1.2, this.2⟩
  obtain ⟨rfl, y1, y2⟩ := hy
  have d5 : decide (repl < p.mn) = false := decide_eq_false (by omega)
  have d6 : decide (p.mx < repl) = false := decide_eq_false (by omega)
  have K0 := Lib.hid (M2.out.heap 0 rfl)
  clear H1 hx th HHAS
  go_wp2_with ((with_reducible refine wpList_load_rowAs rfl 23 _ rfl (w.heap.size) ?_ 23 #[.int .i64 p.mn, .int .i64 p.mx, .int .i64 p.tg, .int .i64 p.tl, .int .i64 p.wi, .int .i64 p.ho] (0, 0) _ 6 ?_ Try.underlying23 rfl (by kernel_rfl) ?_ ?_); exact rfl; exact K0.out; exact rfl)
  (with_reducible refine (F1.out _ (HQ.out.below M2.out.below)).mono ?_)
  rintro e w3 ⟨rfl, hb3⟩
  have M3 := Lib.hid (M2.out.call hb3)
  clear hb3 K0 c3 c0 c1 M2 y1 y2 d5 d6
  go_wp2_with fail
  have hst := stab_mem (w := w) (bs := [(w.heap.size, .cells #[.int .i64 p.mn, .int .i64 p.mx, .int .i64 p.tg, .int .i64 p.tl, .int .i64 p.wi, .int .i64 p.ho] 23), (w.heap.size + 1, .cells #[.int .i64 tick, .int .i64 load, .int .i64 want, .int .i64 repl, .int .i64 why] 56)])
  by_cases t3 : want = rw'
  · have H3 := Lib.hid (H2.out.trans (if_neg (fun h => h t3)))
    subst t3
    clear H2
    refine wp_region_E mixed [] hst (M3.out.drewN 1) ?_
    refine wpAnyE_take 0 (v := .pointer (some ⟨w.heap.size + 1, 2, none⟩)) rfl (by kernel_rfl) (by kernel_rfl) (by kernel_rfl) (fun _ _ _ h => h) hst (EffB.run rfl rfl (fun wd hS => ?_)) (.inr (EffB.run rfl rfl (fun wd hS => ?_))) ?_
    · (go_wp2; exact ⟨rfl, Below.refl _ _⟩)
    · (go_wp2; exact ⟨rfl, Below.refl _ _⟩)
    simp only [act_norm]
    refine wpAnyE_take 1 (v := .int .i64 want) rfl (by kernel_rfl) (by kernel_rfl) (by kernel_rfl) (fun _ _ _ h => h) hst (EffB.run rfl rfl (fun wd hS => ?_)) (.inl (by kernel_rfl)) ?_
    · (have c2 : wd.cell? ⟨w.heap.size + 1, 2, none⟩ = some (.int .i64 want) := by rw [cell_of_row _ _ _ _ _ _ (hS.heap 1 rfl)]; rfl); go_wp2; exact ⟨rfl, Below.refl _ _⟩
    simp only [act_norm]
    refine wpAnyE_take 2 (v := .agg #[.int .i64 p.mn, .int .i64 p.mx, .int .i64 p.tg, .int .i64 p.tl, .int .i64 p.wi, .int .i64 p.ho]) rfl (by kernel_rfl) (by kernel_rfl) (by kernel_rfl) (fun _ _ _ h => h) hst (EffB.run rfl rfl (fun wd hS => ?_)) (.inl (by kernel_rfl)) ?_
    · exact wp_load_row 23 _ rfl (w.heap.size) rfl 23 #[.int .i64 p.mn, .int .i64 p.mx, .int .i64 p.tg, .int .i64 p.tl, .int .i64 p.wi, .int .i64 p.ho] (0, 0) _ (hS.heap 0 rfl) Try.underlying23 rfl (by kernel_rfl) ⟨rfl, Below.refl _ _⟩
    simp only [act_norm]
    refine wpAnyE_take 3 (v := .agg #[.int .i64 p.mn, .int .i64 p.mx, .int .i64 p.tg, .int .i64 p.tl, .int .i64 p.wi, .int .i64 p.ho]) rfl (by kernel_rfl) (by kernel_rfl) (by kernel_rfl) (fun _ _ _ h => h) hst (EffB.run rfl rfl (fun wd hS => ?_)) (.inl (by kernel_rfl)) ?_
    · exact wp_load_row 23 _ rfl (w.heap.size) rfl 23 #[.int .i64 p.mn, .int .i64 p.mx, .int .i64 p.tg, .int .i64 p.tl, .int .i64 p.wi, .int .i64 p.ho] (0, 0) _ (hS.heap 0 rfl) Try.underlying23 rfl (by kernel_rfl) ⟨rfl, Below.refl _ _⟩
    simp only [act_norm]
    refine wpAnyE_take 4 (v := .pointer (some ⟨w.heap.size + 1, 1, none⟩)) rfl (by kernel_rfl) (by kernel_rfl) (by kernel_rfl) (fun _ _ _ h => h) hst (EffB.run rfl rfl (fun wd hS => ?_)) (.inr (EffB.run rfl rfl (fun wd hS => ?_))) ?_
    · (go_wp2; exact ⟨rfl, Below.refl _ _⟩)
    · (go_wp2; exact ⟨rfl, Below.refl _ _⟩)
    simp only [act_norm]
    refine wpAnyE_take 5 (v := .int .i64 load) rfl (by kernel_rfl) (by kernel_rfl) (by kernel_rfl) (fun _ _ _ h => h) hst (EffB.run rfl rfl (fun wd hS => ?_)) (.inl (by kernel_rfl)) ?_
    · (have c2 : wd.cell? ⟨w.heap.size + 1, 1, none⟩ = some (.int .i64 load) := by rw [cell_of_row _ _ _ _ _ _ (hS.heap 1 rfl)]; rfl); go_wp2; exact ⟨rfl, Below.refl _ _⟩
    simp only [act_norm]
    refine wpAnyE_take 6 rfl (by kernel_rfl) (by kernel_rfl) (by kernel_rfl) (fun _ _ _ h => h) hst (EffB.pure rfl (fun _ => rfl)) (.inr (EffB.pure rfl (fun _ => rfl))) ?_
    simp only [act_norm]
    refine wpAnyE_take 7 (v := .int .i64 op) rfl (by kernel_rfl) (by kernel_rfl) (by kernel_rfl) (fun _ _ _ h => h) hst (EffB.run rfl rfl (fun wd hS => ?_)) (.inl (by kernel_rfl)) ?_
    · (go_wp2_with fail; (with_reducible refine (F3.out wd).mono ?_); rintro e w'' ⟨rfl, hb⟩; exact ⟨rfl, hb⟩)
    simp only [act_norm]
    refine wpAnyE_take 8 (v := .int .i64 want) rfl (by kernel_rfl) (by kernel_rfl) (by kernel_rfl) (fun _ _ _ h => h) hst (EffB.run rfl rfl (fun wd hS => ?_)) (.inl (by kernel_rfl)) ?_
    · (go_wp2_with fail; (with_reducible refine (F4.out wd).mono ?_); rintro e w'' ⟨rfl, hb⟩; exact ⟨rfl, hb⟩)
    simp only [act_norm]
    refine wpAnyE_take 9 (v := .bool false) rfl (by kernel_rfl) (by kernel_rfl) (by kernel_rfl) (fun _ _ _ h => h) hst (EffB.run rfl rfl (fun wd hS => ?_)) (.inr (EffB.run rfl rfl (fun wd hS => ?_))) ?_
    · (go_wp2; exact ⟨rfl, Below.refl _ _⟩)
    · (go_wp2; exact ⟨rfl, Below.refl _ _⟩)
    simp only [act_norm]
    refine wpAnyE_done (by kernel_rfl) (fun wd hS => ?_) _
    have M4 := Lib.hid hS
    have K0 := Lib.hid (M4.out.heap 0 rfl)
    have c0 := M4.out.cell 1 0 rfl rfl
    have c2 := M4.out.cell 1 2 rfl rfl
    clear hS M3
    go_wp2_with ((with_reducible refine wpList_load_rowAs rfl 23 _ rfl (w.heap.size) ?_ 23 #[.int .i64 p.mn, .int .i64 p.mx, .int .i64 p.tg, .int .i64 p.tl, .int .i64 p.wi, .int .i64 p.ho] (0, 0) _ 6 ?_ Try.underlying23 rfl (by kernel_rfl) ?_ ?_); exact rfl; exact K0.out; exact rfl)
    (with_reducible refine (F2.out _ (HQ.out.below M4.out.below)).mono ?_)
    rintro e w5 ⟨rfl, hb5⟩
    have M5 := Lib.hid (M4.out.call hb5)
    clear hb5 K0 c0 c2 M4
    go_wp2_with fail
    by_cases t4 : repl = bd
    · obtain ⟨b4, eb4⟩ : ∃ b, (why == 4) = b := ⟨_, rfl⟩
      subst t4
      refine wp_region_E mixed [] hst (M5.out.drewN 1) ?_
      refine wpAnyE_take 0 (v := .pointer (some ⟨w.heap.size + 1, 3, none⟩)) rfl (by kernel_rfl) (by kernel_rfl) (by kernel_rfl) (fun _ _ _ h => h) hst (EffB.run rfl rfl (fun wd hS => ?_)) (.inr (EffB.run rfl rfl (fun wd hS => ?_))) ?_
      · (go_wp2; exact ⟨rfl, Below.refl _ _⟩)
      · (go_wp2; exact ⟨rfl, Below.refl _ _⟩)
      simp only [act_norm]
      refine wpAnyE_take 1 (v := .int .i64 repl) rfl (by kernel_rfl) (by kernel_rfl) (by kernel_rfl) (fun _ _ _ h => h) hst (EffB.run rfl rfl (fun wd hS => ?_)) (.inl (by kernel_rfl)) ?_
      · (have c2 : wd.cell? ⟨w.heap.size + 1, 3, none⟩ = some (.int .i64 repl) := by rw [cell_of_row _ _ _ _ _ _ (hS.heap 1 rfl)]; rfl); go_wp2; exact ⟨rfl, Below.refl _ _⟩
      simp only [act_norm]
      refine wpAnyE_take 2 (v := .agg #[.int .i64 p.mn, .int .i64 p.mx, .int .i64 p.tg, .int .i64 p.tl, .int .i64 p.wi, .int .i64 p.ho]) rfl (by kernel_rfl) (by kernel_rfl) (by kernel_rfl) (fun _ _ _ h => h) hst (EffB.run rfl rfl (fun wd hS => ?_)) (.inl (by kernel_rfl)) ?_
      · exact wp_load_row 23 _ rfl (w.heap.size) rfl 23 #[.int .i64 p.mn, .int .i64 p.mx, .int .i64 p.tg, .int .i64 p.tl, .int .i64 p.wi, .int .i64 p.ho] (0, 0) _ (hS.heap 0 rfl) Try.underlying23 rfl (by kernel_rfl) ⟨rfl, Below.refl _ _⟩
      simp only [act_norm]
      refine wpAnyE_take 3 rfl (by kernel_rfl) (by kernel_rfl) (by kernel_rfl) (fun _ _ _ h => h) hst (EffB.pure rfl (fun _ => rfl)) (.inr (EffB.pure rfl (fun _ => rfl))) ?_
      simp only [act_norm]
      refine wpAnyE_take 4 (v := .int .i64 repl) rfl (by kernel_rfl) (by kernel_rfl) (by kernel_rfl) (fun _ _ _ h => h) hst (EffB.run rfl rfl (fun wd hS => ?_)) (.inl (by kernel_rfl)) ?_
      · (go_wp2_with fail; (with_reducible refine (F5.out wd).mono ?_); rintro e w'' ⟨rfl, hb⟩; exact ⟨rfl, hb⟩)
      simp only [act_norm]
      refine wpAnyE_take 5 (v := .bool false) rfl (by kernel_rfl) (by kernel_rfl) (by kernel_rfl) (fun _ _ _ h => h) hst (EffB.run rfl rfl (fun wd hS => ?_)) (.inr (EffB.run rfl rfl (fun wd hS => ?_))) ?_
      · (go_wp2; exact ⟨rfl, Below.refl _ _⟩)
      · (go_wp2; exact ⟨rfl, Below.refl _ _⟩)
      simp only [act_norm]
      refine wpAnyE_take 6 rfl (by kernel_rfl) (by kernel_rfl) (by kernel_rfl) (fun _ _ _ h => h) hst (EffB.pure rfl (fun _ => rfl)) (.inr (EffB.pure rfl (fun _ => rfl))) ?_
      simp only [act_norm]
      refine wpAnyE_take 7 rfl (by kernel_rfl) (by kernel_rfl) (by kernel_rfl) (fun _ _ _ h => h) hst (EffB.pure rfl (fun _ => rfl)) (.inr (EffB.pure rfl (fun _ => rfl))) ?_
      simp only [act_norm]
      refine wpAnyE_take 8 (v := .pointer (some ⟨w.heap.size + 1, 4, none⟩)) rfl (by kernel_rfl) (by kernel_rfl) (by kernel_rfl) (fun _ _ _ h => h) hst (EffB.run rfl rfl (fun wd hS => ?_)) (.inr (EffB.run rfl rfl (fun wd hS => ?_))) ?_
      · (go_wp2; exact ⟨rfl, Below.refl _ _⟩)
      · (go_wp2; exact ⟨rfl, Below.refl _ _⟩)
      simp only [act_norm]
      refine wpAnyE_take 9 (v := .int .i64 why) rfl (by kernel_rfl) (by kernel_rfl) (by kernel_rfl) (fun _ _ _ h => h) hst (EffB.run rfl rfl (fun wd hS => ?_)) (.inl (by kernel_rfl)) ?_
      · (have c2 : wd.cell? ⟨w.heap.size + 1, 4, none⟩ = some (.int .i64 why) := by rw [cell_of_row _ _ _ _ _ _ (hS.heap 1 rfl)]; rfl); go_wp2; exact ⟨rfl, Below.refl _ _⟩
      simp only [act_norm]
      refine wpAnyE_take 10 (v := .bool b4) rfl (by kernel_rfl) (by kernel_rfl) (by kernel_rfl) (fun _ _ _ h => h) hst (EffB.run rfl rfl (fun wd hS => ?_)) (.inr (EffB.run rfl rfl (fun wd hS => ?_))) ?_
      · (go_wp2; exact ⟨rfl, Below.refl _ _⟩)
      · (go_wp2; exact ⟨rfl, Below.refl _ _⟩)
      simp only [act_norm]
      refine wpAnyE_take 11 (v := .bool (hh != b4)) rfl (by kernel_rfl) (by kernel_rfl) (by kernel_rfl) (fun _ _ _ h => h) hst (EffB.run rfl rfl (fun wd hS => ?_)) (.inr (EffB.run rfl rfl (fun wd hS => ?_))) ?_
      · (go_wp2; exact ⟨rfl, Below.refl _ _⟩)
      · (go_wp2; exact ⟨rfl, Below.refl _ _⟩)
      simp only [act_norm]
      refine wpAnyE_take 12 (v := .bool (hh != b4)) rfl (by kernel_rfl) (by kernel_rfl) (by kernel_rfl) (fun _ _ _ h => h) hst (EffB.run rfl rfl (fun wd hS => ?_)) (.inr (EffB.run rfl rfl (fun wd hS => ?_))) ?_
      · (go_wp2; exact ⟨rfl, Below.refl _ _⟩)
      · (go_wp2; exact ⟨rfl, Below.refl _ _⟩)
      simp only [act_norm]
      refine wpAnyE_done (by kernel_rfl) (fun wd hS => ?_) _
      have M6 := Lib.hid hS
      clear hS hst M5
      obtain ⟨b5, e5⟩ : ∃ b, b = (hh != b4) := ⟨_, rfl⟩
      rw [← e5]
      by_cases t5 : hh = b4
      · obtain rfl : b5 = false := by rw [e5]; simp [t5]
        have H5 := Lib.hid (H3.out.trans (if_neg (by rw [eb4]; simp [t5])))
        have c4 := M6.out.cell 1 4 rfl rfl
        have c3 := M6.out.cell 1 3 rfl rfl
        clear H3 eb4 e5 t5
        have hm := HMV.out
        clear HMV
        by_cases w2 : why = 2
        · rw [if_pos w2] at hm
          subst w2
          by_cases t6 : now < repl
          · have d6 : decide (repl ≤ now) = false := decide_eq_false (by omega)
            rw [decide_eq_true t6] at hm
            have HE := Lib.hid (H5.out.trans (if_neg (by rw [hm]; simp)))
            clear hm
            go_wp2
            go_ret
            exact ⟨ret_int HE.out.symm, M6.out.below⟩
          · have d6 : decide (repl ≤ now) = true := decide_eq_true (by omega)
            rw [decide_eq_false t6] at hm
            have HE := Lib.hid (H5.out.trans (if_pos hm))
            clear hm
            go_wp2
            go_ret
            exact ⟨ret_int HE.out.symm, M6.out.below⟩
        rw [if_neg w2] at hm
        have e2 : (why == 2) = false := beq_eq_false_iff_ne.2 w2
        by_cases w3 : why = 3
        · rw [if_pos w3] at hm
          subst w3
          clear e2 w2
          by_cases t6 : repl < now
          · have d6 : decide (now ≤ repl) = false := decide_eq_false (by omega)
            rw [decide_eq_true t6] at hm
            have HE := Lib.hid (H5.out.trans (if_neg (by rw [hm]; simp)))
            clear hm
            go_wp2
            go_ret
            exact ⟨ret_int HE.out.symm, M6.out.below⟩
          · have d6 : decide (now ≤ repl) = true := decide_eq_true (by omega)
            rw [decide_eq_false t6] at hm
            have HE := Lib.hid (H5.out.trans (if_pos hm))
            clear hm
            go_wp2
            go_ret
            exact ⟨ret_int HE.out.symm, M6.out.below⟩
        rw [if_neg w3] at hm
        have e3 : (why == 3) = false := beq_eq_false_iff_ne.2 w3
        by_cases w1 : why = 1
        · rw [if_pos w1] at hm
          subst w1
          clear e2 w2 e3 w3
          by_cases t6 : repl = now
          · have d6 : (repl != now) = false := by simp [t6]
            rw [show (repl == now) = true by simp [t6]] at hm
            have HE := Lib.hid (H5.out.trans (if_neg (by rw [hm]; simp)))
            clear hm t6
            go_wp2
            go_ret
            exact ⟨ret_int HE.out.symm, M6.out.below⟩
          · have d6 : (repl != now) = true := by simpa using t6
            rw [show (repl == now) = false from beq_eq_false_iff_ne.2 t6] at hm
            have HE := Lib.hid (H5.out.trans (if_pos hm))
            clear hm
            go_wp2
            go_ret
            exact ⟨ret_int HE.out.symm, M6.out.below⟩
        rw [if_neg w1] at hm
        have e1 : (why == 1) = false := beq_eq_false_iff_ne.2 w1
        have HE := Lib.hid (H5.out.trans (if_neg (by rw [hm]; simp)))
        clear hm w1 w2 w3
        go_wp2
        go_ret
        exact ⟨ret_int HE.out.symm, M6.out.below⟩
      · obtain rfl : b5 = true := by rw [e5]; simpa using t5
        clear e5
        have HE := Lib.hid (H3.out.trans (if_pos (by rw [eb4]; exact .inr t5)))
        go_wp2
        go_ret
        exact ⟨ret_int HE.out.symm, M6.out.below⟩
    · have d4 : (repl != bd) = true := by simpa using t4
      have HE := Lib.hid (H3.out.trans (if_pos (.inl t4)))
      clear H3
      refine wp_region_E mixed [] hst (M5.out.drewN 1) ?_
      refine wpAnyE_take 0 (v := .pointer (some ⟨w.heap.size + 1, 3, none⟩)) rfl (by kernel_rfl) (by kernel_rfl) (by kernel_rfl) (fun _ _ _ h => h) hst (EffB.run rfl rfl (fun wd hS => ?_)) (.inr (EffB.run rfl rfl (fun wd hS => ?_))) ?_
      · (go_wp2; exact ⟨rfl, Below.refl _ _⟩)
      · (go_wp2; exact ⟨rfl, Below.refl _ _⟩)
      simp only [act_norm]
      refine wpAnyE_take 1 (v := .int .i64 repl) rfl (by kernel_rfl) (by kernel_rfl) (by kernel_rfl) (fun _ _ _ h => h) hst (EffB.run rfl rfl (fun wd hS => ?_)) (.inl (by kernel_rfl)) ?_
      · (have c2 : wd.cell? ⟨w.heap.size + 1, 3, none⟩ = some (.int .i64 repl) := by rw [cell_of_row _ _ _ _ _ _ (hS.heap 1 rfl)]; rfl); go_wp2; exact ⟨rfl, Below.refl _ _⟩
      simp only [act_norm]
      refine wpAnyE_take 2 (v := .agg #[.int .i64 p.mn, .int .i64 p.mx, .int .i64 p.tg, .int .i64 p.tl, .int .i64 p.wi, .int .i64 p.ho]) rfl (by kernel_rfl) (by kernel_rfl) (by kernel_rfl) (fun _ _ _ h => h) hst (EffB.run rfl rfl (fun wd hS => ?_)) (.inl (by kernel_rfl)) ?_
      · exact wp_load_row 23 _ rfl (w.heap.size) rfl 23 #[.int .i64 p.mn, .int .i64 p.mx, .int .i64 p.tg, .int .i64 p.tl, .int .i64 p.wi, .int .i64 p.ho] (0, 0) _ (hS.heap 0 rfl) Try.underlying23 rfl (by kernel_rfl) ⟨rfl, Below.refl _ _⟩
      simp only [act_norm]
      refine wpAnyE_take 3 rfl (by kernel_rfl) (by kernel_rfl) (by kernel_rfl) (fun _ _ _ h => h) hst (EffB.pure rfl (fun _ => rfl)) (.inr (EffB.pure rfl (fun _ => rfl))) ?_
      simp only [act_norm]
      refine wpAnyE_take 4 (v := .int .i64 bd) rfl (by kernel_rfl) (by kernel_rfl) (by kernel_rfl) (fun _ _ _ h => h) hst (EffB.run rfl rfl (fun wd hS => ?_)) (.inl (by kernel_rfl)) ?_
      · (go_wp2_with fail; (with_reducible refine (F5.out wd).mono ?_); rintro e w'' ⟨rfl, hb⟩; exact ⟨rfl, hb⟩)
      simp only [act_norm]
      refine wpAnyE_take 5 (v := .bool true) rfl (by kernel_rfl) (by kernel_rfl) (by kernel_rfl) (fun _ _ _ h => h) hst (EffB.run rfl rfl (fun wd hS => ?_)) (.inr (EffB.run rfl rfl (fun wd hS => ?_))) ?_
      · (go_wp2; exact ⟨rfl, Below.refl _ _⟩)
      · (go_wp2; exact ⟨rfl, Below.refl _ _⟩)
      simp only [act_norm]
      refine wpAnyE_take 6 rfl (by kernel_rfl) (by kernel_rfl) (by kernel_rfl) (fun _ _ _ h => h) hst (EffB.pure rfl (fun _ => rfl)) (.inr (EffB.pure rfl (fun _ => rfl))) ?_
      simp only [act_norm]
      refine wpAnyE_take 7 rfl (by kernel_rfl) (by kernel_rfl) (by kernel_rfl) (fun _ _ _ h => h) hst (EffB.skip rfl) (.inr (EffB.skip rfl)) ?_
      simp only [act_norm]
      refine wpAnyE_take 8 rfl (by kernel_rfl) (by kernel_rfl) (by kernel_rfl) (fun _ _ _ h => h) hst (EffB.skip rfl) (.inr (EffB.skip rfl)) ?_
      simp only [act_norm]
      refine wpAnyE_take 9 rfl (by kernel_rfl) (by kernel_rfl) (by kernel_rfl) (fun _ _ _ h => h) hst (EffB.skip rfl) (.inr (EffB.skip rfl)) ?_
      simp only [act_norm]
      refine wpAnyE_take 10 rfl (by kernel_rfl) (by kernel_rfl) (by kernel_rfl) (fun _ _ _ h => h) hst (EffB.skip rfl) (.inr (EffB.skip rfl)) ?_
      simp only [act_norm]
      refine wpAnyE_take 11 rfl (by kernel_rfl) (by kernel_rfl) (by kernel_rfl) (fun _ _ _ h => h) hst (EffB.skip rfl) (.inr (EffB.skip rfl)) ?_
      simp only [act_norm]
      refine wpAnyE_take 12 (v := .bool true) rfl (by kernel_rfl) (by kernel_rfl) (by kernel_rfl) (fun _ _ _ h => h) hst (EffB.run rfl rfl (fun wd hS => ?_)) (.inr (EffB.run rfl rfl (fun wd hS => ?_))) ?_
      · (go_wp2; exact ⟨rfl, Below.refl _ _⟩)
      · (go_wp2; exact ⟨rfl, Below.refl _ _⟩)
      simp only [act_norm]
      refine wpAnyE_done (by kernel_rfl) (fun wd hS => ?_) _
      have M6 := Lib.hid hS
      clear hS hst M5
      go_wp2
      go_ret
      exact ⟨ret_int HE.out.symm, M6.out.below⟩
  · have d3 : (want != rw') = true := by simpa using t3
    have HE := Lib.hid (H2.out.trans (if_pos t3))
    clear H2
    refine wp_region_E mixed [] hst (M3.out.drewN 1) ?_
    refine wpAnyE_take 0 (v := .pointer (some ⟨w.heap.size + 1, 2, none⟩)) rfl (by kernel_rfl) (by kernel_rfl) (by kernel_rfl) (fun _ _ _ h => h) hst (EffB.run rfl rfl (fun wd hS => ?_)) (.inr (EffB.run rfl rfl (fun wd hS => ?_))) ?_
    · (go_wp2; exact ⟨rfl, Below.refl _ _⟩)
    · (go_wp2; exact ⟨rfl, Below.refl _ _⟩)
    simp only [act_norm]
    refine wpAnyE_take 1 (v := .int .i64 want) rfl (by kernel_rfl) (by kernel_rfl) (by kernel_rfl) (fun _ _ _ h => h) hst (EffB.run rfl rfl (fun wd hS => ?_)) (.inl (by kernel_rfl)) ?_
    · (have c2 : wd.cell? ⟨w.heap.size + 1, 2, none⟩ = some (.int .i64 want) := by rw [cell_of_row _ _ _ _ _ _ (hS.heap 1 rfl)]; rfl); go_wp2; exact ⟨rfl, Below.refl _ _⟩
    simp only [act_norm]
    refine wpAnyE_take 2 (v := .agg #[.int .i64 p.mn, .int .i64 p.mx, .int .i64 p.tg, .int .i64 p.tl, .int .i64 p.wi, .int .i64 p.ho]) rfl (by kernel_rfl) (by kernel_rfl) (by kernel_rfl) (fun _ _ _ h => h) hst (EffB.run rfl rfl (fun wd hS => ?_)) (.inl (by kernel_rfl)) ?_
    · exact wp_load_row 23 _ rfl (w.heap.size) rfl 23 #[.int .i64 p.mn, .int .i64 p.mx, .int .i64 p.tg, .int .i64 p.tl, .int .i64 p.wi, .int .i64 p.ho] (0, 0) _ (hS.heap 0 rfl) Try.underlying23 rfl (by kernel_rfl) ⟨rfl, Below.refl _ _⟩
    simp only [act_norm]
    refine wpAnyE_take 3 (v := .agg #[.int .i64 p.mn, .int .i64 p.mx, .int .i64 p.tg, .int .i64 p.tl, .int .i64 p.wi, .int .i64 p.ho]) rfl (by kernel_rfl) (by kernel_rfl) (by kernel_rfl) (fun _ _ _ h => h) hst (EffB.run rfl rfl (fun wd hS => ?_)) (.inl (by kernel_rfl)) ?_
    · exact wp_load_row 23 _ rfl (w.heap.size) rfl 23 #[.int .i64 p.mn, .int .i64 p.mx, .int .i64 p.tg, .int .i64 p.tl, .int .i64 p.wi, .int .i64 p.ho] (0, 0) _ (hS.heap 0 rfl) Try.underlying23 rfl (by kernel_rfl) ⟨rfl, Below.refl _ _⟩
    simp only [act_norm]
    refine wpAnyE_take 4 (v := .pointer (some ⟨w.heap.size + 1, 1, none⟩)) rfl (by kernel_rfl) (by kernel_rfl) (by kernel_rfl) (fun _ _ _ h => h) hst (EffB.run rfl rfl (fun wd hS => ?_)) (.inr (EffB.run rfl rfl (fun wd hS => ?_))) ?_
    · (go_wp2; exact ⟨rfl, Below.refl _ _⟩)
    · (go_wp2; exact ⟨rfl, Below.refl _ _⟩)
    simp only [act_norm]
    refine wpAnyE_take 5 (v := .int .i64 load) rfl (by kernel_rfl) (by kernel_rfl) (by kernel_rfl) (fun _ _ _ h => h) hst (EffB.run rfl rfl (fun wd hS => ?_)) (.inl (by kernel_rfl)) ?_
    · (have c2 : wd.cell? ⟨w.heap.size + 1, 1, none⟩ = some (.int .i64 load) := by rw [cell_of_row _ _ _ _ _ _ (hS.heap 1 rfl)]; rfl); go_wp2; exact ⟨rfl, Below.refl _ _⟩
    simp only [act_norm]
    refine wpAnyE_take 6 rfl (by kernel_rfl) (by kernel_rfl) (by kernel_rfl) (fun _ _ _ h => h) hst (EffB.pure rfl (fun _ => rfl)) (.inr (EffB.pure rfl (fun _ => rfl))) ?_
    simp only [act_norm]
    refine wpAnyE_take 7 (v := .int .i64 op) rfl (by kernel_rfl) (by kernel_rfl) (by kernel_rfl) (fun _ _ _ h => h) hst (EffB.run rfl rfl (fun wd hS => ?_)) (.inl (by kernel_rfl)) ?_
    · (go_wp2_with fail; (with_reducible refine (F3.out wd).mono ?_); rintro e w'' ⟨rfl, hb⟩; exact ⟨rfl, hb⟩)
    simp only [act_norm]
    refine wpAnyE_take 8 (v := .int .i64 rw') rfl (by kernel_rfl) (by kernel_rfl) (by kernel_rfl) (fun _ _ _ h => h) hst (EffB.run rfl rfl (fun wd hS => ?_)) (.inl (by kernel_rfl)) ?_
    · (go_wp2_with fail; (with_reducible refine (F4.out wd).mono ?_); rintro e w'' ⟨rfl, hb⟩; exact ⟨rfl, hb⟩)
    simp only [act_norm]
    refine wpAnyE_take 9 (v := .bool true) rfl (by kernel_rfl) (by kernel_rfl) (by kernel_rfl) (fun _ _ _ h => h) hst (EffB.run rfl rfl (fun wd hS => ?_)) (.inr (EffB.run rfl rfl (fun wd hS => ?_))) ?_
    · (go_wp2; exact ⟨rfl, Below.refl _ _⟩)
    · (go_wp2; exact ⟨rfl, Below.refl _ _⟩)
    simp only [act_norm]
    refine wpAnyE_done (by kernel_rfl) (fun wd hS => ?_) _
    have M4 := Lib.hid hS
    clear hS M3 hst
    go_wp2
    go_ret
    exact ⟨ret_int HE.out.symm, M4.out.below⟩

set_option maxHeartbeats 1000000 in
set_option maxRecDepth 100000 in
theorem awake48 (w : World) : Calls Try.prog 15 #[] w fun e w' => e = .returned (.bool true) ∧ Below w.heap.size w w' := by
  have h1 : ∀ W : World, Calls Try.prog 61 #[.agg #[.int .i64 0, .int .i64 0, .int .i64 0, .int .i64 0, .int .i64 0, .int .i64 0], .slice none 0 0, .agg #[.int .i64 0, .int .i64 0, .int .i64 0, .int .i64 0, .int .i64 0]] W fun e w' => e = .returned (.int .i64 1) ∧ Below W.heap.size W w' := by
    intro W
    have := audit_rule ⟨0, 0, 0, 0, 0, 0⟩ (by unfold Pol.In I64; simp) none 0 [] (by simp) ⟨0, 0, 0, 0, 0⟩ (by unfold Adv.In I64; simp) W (.inl rfl)
    rw [show Aud.rule ⟨0, 0, 0, 0, 0, 0⟩ [] ⟨0, 0, 0, 0, 0⟩ = 1 by decide +kernel] at this
    exact this
  have H1 := Lib.hid h1
  clear h1
  go_enter Try.func15, Try.ntmps15
  go_wp2_with fail
  (with_reducible refine (H1.out _).mono ?_)
  rintro e w1 ⟨rfl, hb1⟩
  have HB := Lib.hid hb1
  clear hb1
  go_wp2
  go_ret
  exact ⟨rfl, HB.out⟩

end Go.Proofs.Ytcanbagnehdbiaa
