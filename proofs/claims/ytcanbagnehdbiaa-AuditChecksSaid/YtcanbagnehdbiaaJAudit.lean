/- Layer 48: which rule a decision breaks. -/
import Derived.Test.YtcanbagnehdbiaaJLaws16
namespace Go.Proofs.Ytcanbagnehdbiaa
open Go.ChangeShapes Go.WideShapes Go.ChangeAt Go.RowKit

def Aud.has (p : Pol) (n : Int) : Bool := p.ok && decide (p.mn ≤ n) && decide (n ≤ p.mx)
def Aud.moved (why repl now : Int) : Bool := if why = 2 then decide (now < repl) else if why = 3 then decide (repl < now) else if why = 1 then repl == now else true
def Aud.rule' (why : Int) (has : Bool) (want raw repl bd : Int) (hh : Bool) (mv : Bool) : Int :=
  if why < 1 ∨ 6 < why then 1 else if has = false then 2 else if want ≠ raw then 3 else if repl ≠ bd ∨ hh ≠ (why == 4) then 4 else if mv = false then 5 else 0
def Aud.rule (p : Pol) (past : List Adv) (a : Adv) : Int :=
  Aud.rule' a.why (Aud.has p a.repl) a.want (p.raw a.load (Dec.now p past)) a.repl (p.bound (Adv.held p a.tick a.want past).1) (Adv.held p a.tick a.want past).2 (Aud.moved a.why a.repl (Dec.now p past))

set_option maxRecDepth 100000 in
theorem policy_has (p : Pol) (n : Int) (w : World) : Calls Try.prog 100 #[.agg #[.int .i64 p.mn, .int .i64 p.mx, .int .i64 p.tg, .int .i64 p.tl, .int .i64 p.wi, .int .i64 p.ho], .int .i64 n] w fun e w' => e = .returned (.bool (Aud.has p n)) ∧ Below w.heap.size w w' := by
  have hc := policy_check p
  have herr : p.err = if p.ok = true then 0 else 7 := rfl
  have hd : Aud.has p n = (p.ok && decide (p.mn ≤ n) && decide (n ≤ p.mx)) := rfl
  cases hok : p.ok with
  | false =>
    rw [herr, if_neg (by rw [hok]; simp)] at hc
    have HE : Hid (Aud.has p n = false) := by show _ = _; rw [hd, hok]; rfl
    have HC := Lib.hid hc
    clear hc herr hd hok
    go_enter Try.func100, Try.ntmps100
    go_wp2_with ((with_reducible refine wpList_load_rowAs rfl 23 _ rfl (w.heap.size) ?_ 23 #[.int .i64 p.mn, .int .i64 p.mx, .int .i64 p.tg, .int .i64 p.tl, .int .i64 p.wi, .int .i64 p.ho] (0, 0) _ 6 ?_ Try.underlying23 rfl (by kernel_rfl) ?_ ?_); exact rfl; exact (by first | (with_reducible exact heap_1_0 _ _) | (with_reducible exact heap_2_0 _ _ _) | (with_reducible exact heap_2_1 _ _ _) | (with_reducible exact heap_3_0 _ _ _ _) | (with_reducible exact heap_3_1 _ _ _ _) | (with_reducible exact heap_3_2 _ _ _ _) | (with_reducible exact heap_4_0 _ _ _ _ _) | (with_reducible exact heap_4_1 _ _ _ _ _) | (with_reducible exact heap_4_2 _ _ _ _ _) | (with_reducible exact heap_4_3 _ _ _ _ _) | (with_reducible exact heap_5_0 _ _ _ _ _ _) | (with_reducible exact heap_5_1 _ _ _ _ _ _) | (with_reducible exact heap_5_2 _ _ _ _ _ _) | (with_reducible exact heap_5_3 _ _ _ _ _ _) | (with_reducible exact heap_5_4 _ _ _ _ _ _) | (with_reducible exact heap_6_0 _ _ _ _ _ _ _) | (with_reducible exact heap_6_1 _ _ _ _ _ _ _) | (with_reducible exact heap_6_2 _ _ _ _ _ _ _) | (with_reducible exact heap_6_3 _ _ _ _ _ _ _) | (with_reducible exact heap_6_4 _ _ _ _ _ _ _) | (with_reducible exact heap_6_5 _ _ _ _ _ _ _) | simp only [heap_alloc_past, heap_alloc_at, World.size_alloc, Nat.add_assoc, Nat.reduceAdd, Nat.lt_add_right_iff_pos, Nat.add_lt_add_iff_left, Nat.reduceLT, Nat.zero_lt_succ, Nat.lt_add_one]); exact rfl)
    (with_reducible refine (HC.out _).mono ?_)
    rintro e w1 ⟨rfl, hb1⟩
    have M1 := Lib.hid (((Mem.start w).alloc (.cells #[.int .i64 p.mn, .int .i64 p.mx, .int .i64 p.tg, .int .i64 p.tl, .int .i64 p.wi, .int .i64 p.ho] 23)).call hb1)
    clear hb1
    go_wp2
    go_ret
    exact ⟨ret_bool HE.out.symm, M1.out.below⟩
  | true =>
    rw [herr, if_pos hok] at hc
    rw [hok] at hd
    have HC := Lib.hid hc
    have HD := Lib.hid hd
    clear hc herr hd hok
    by_cases h1 : p.mn ≤ n
    · have d1 : decide (p.mn ≤ n) = true := decide_eq_true h1
      go_enter Try.func100, Try.ntmps100
      go_wp2_with ((with_reducible refine wpList_load_rowAs rfl 23 _ rfl (w.heap.size) ?_ 23 #[.int .i64 p.mn, .int .i64 p.mx, .int .i64 p.tg, .int .i64 p.tl, .int .i64 p.wi, .int .i64 p.ho] (0, 0) _ 6 ?_ Try.underlying23 rfl (by kernel_rfl) ?_ ?_); exact rfl; exact (by first | (with_reducible exact heap_1_0 _ _) | (with_reducible exact heap_2_0 _ _ _) | (with_reducible exact heap_2_1 _ _ _) | (with_reducible exact heap_3_0 _ _ _ _) | (with_reducible exact heap_3_1 _ _ _ _) | (with_reducible exact heap_3_2 _ _ _ _) | (with_reducible exact heap_4_0 _ _ _ _ _) | (with_reducible exact heap_4_1 _ _ _ _ _) | (with_reducible exact heap_4_2 _ _ _ _ _) | (with_reducible exact heap_4_3 _ _ _ _ _) | (with_reducible exact heap_5_0 _ _ _ _ _ _) | (with_reducible exact heap_5_1 _ _ _ _ _ _) | (with_reducible exact heap_5_2 _ _ _ _ _ _) | (with_reducible exact heap_5_3 _ _ _ _ _ _) | (with_reducible exact heap_5_4 _ _ _ _ _ _) | (with_reducible exact heap_6_0 _ _ _ _ _ _ _) | (with_reducible exact heap_6_1 _ _ _ _ _ _ _) | (with_reducible exact heap_6_2 _ _ _ _ _ _ _) | (with_reducible exact heap_6_3 _ _ _ _ _ _ _) | (with_reducible exact heap_6_4 _ _ _ _ _ _ _) | (with_reducible exact heap_6_5 _ _ _ _ _ _ _) | simp only [heap_alloc_past, heap_alloc_at, World.size_alloc, Nat.add_assoc, Nat.reduceAdd, Nat.lt_add_right_iff_pos, Nat.add_lt_add_iff_left, Nat.reduceLT, Nat.zero_lt_succ, Nat.lt_add_one]); exact rfl)
      (with_reducible refine (HC.out _).mono ?_)
      rintro e w1 ⟨rfl, hb1⟩
      have M1 := Lib.hid (((Mem.start w).alloc (.cells #[.int .i64 p.mn, .int .i64 p.mx, .int .i64 p.tg, .int .i64 p.tl, .int .i64 p.wi, .int .i64 p.ho] 23)).call hb1)
      clear hb1
      have c0 := M1.out.cell 0 0 rfl rfl
      have c1 := M1.out.cell 0 1 rfl rfl
      go_wp2
      go_ret
      exact ⟨ret_bool (by rw [HD.out, d1]; simp), M1.out.below⟩
    · have d1 : decide (p.mn ≤ n) = false := decide_eq_false h1
      go_enter Try.func100, Try.ntmps100
      go_wp2_with ((with_reducible refine wpList_load_rowAs rfl 23 _ rfl (w.heap.size) ?_ 23 #[.int .i64 p.mn, .int .i64 p.mx, .int .i64 p.tg, .int .i64 p.tl, .int .i64 p.wi, .int .i64 p.ho] (0, 0) _ 6 ?_ Try.underlying23 rfl (by kernel_rfl) ?_ ?_); exact rfl; exact (by first | (with_reducible exact heap_1_0 _ _) | (with_reducible exact heap_2_0 _ _ _) | (with_reducible exact heap_2_1 _ _ _) | (with_reducible exact heap_3_0 _ _ _ _) | (with_reducible exact heap_3_1 _ _ _ _) | (with_reducible exact heap_3_2 _ _ _ _) | (with_reducible exact heap_4_0 _ _ _ _ _) | (with_reducible exact heap_4_1 _ _ _ _ _) | (with_reducible exact heap_4_2 _ _ _ _ _) | (with_reducible exact heap_4_3 _ _ _ _ _) | (with_reducible exact heap_5_0 _ _ _ _ _ _) | (with_reducible exact heap_5_1 _ _ _ _ _ _) | (with_reducible exact heap_5_2 _ _ _ _ _ _) | (with_reducible exact heap_5_3 _ _ _ _ _ _) | (with_reducible exact heap_5_4 _ _ _ _ _ _) | (with_reducible exact heap_6_0 _ _ _ _ _ _ _) | (with_reducible exact heap_6_1 _ _ _ _ _ _ _) | (with_reducible exact heap_6_2 _ _ _ _ _ _ _) | (with_reducible exact heap_6_3 _ _ _ _ _ _ _) | (with_reducible exact heap_6_4 _ _ _ _ _ _ _) | (with_reducible exact heap_6_5 _ _ _ _ _ _ _) | simp only [heap_alloc_past, heap_alloc_at, World.size_alloc, Nat.add_assoc, Nat.reduceAdd, Nat.lt_add_right_iff_pos, Nat.add_lt_add_iff_left, Nat.reduceLT, Nat.zero_lt_succ, Nat.lt_add_one]); exact rfl)
      (with_reducible refine (HC.out _).mono ?_)
      rintro e w1 ⟨rfl, hb1⟩
      have M1 := Lib.hid (((Mem.start w).alloc (.cells #[.int .i64 p.mn, .int .i64 p.mx, .int .i64 p.tg, .int .i64 p.tl, .int .i64 p.wi, .int .i64 p.ho] 23)).call hb1)
      clear hb1
      have c0 := M1.out.cell 0 0 rfl rfl
      have c1 := M1.out.cell 0 1 rfl rfl
      go_wp2
      go_ret
      exact ⟨ret_bool (by rw [HD.out, d1]; simp), M1.out.below⟩

set_option maxRecDepth 100000 in
theorem audit_moved (a : Adv) (now : Int) (w : World) : Calls Try.prog 103 #[.agg #[.int .i64 a.tick, .int .i64 a.load, .int .i64 a.want, .int .i64 a.repl, .int .i64 a.why], .int .i64 now] w fun e w' => e = .returned (.bool (Aud.moved a.why a.repl now)) ∧ Below w.heap.size w w' := by
  obtain ⟨tick, load, want, repl, why⟩ := a
  have hd : Aud.moved why repl now = if why = 2 then decide (now < repl) else if why = 3 then decide (repl < now) else if why = 1 then repl == now else true := rfl
  show Calls Try.prog 103 #[.agg #[.int .i64 tick, .int .i64 load, .int .i64 want, .int .i64 repl, .int .i64 why], .int .i64 now] w fun e w' => e = .returned (.bool (Aud.moved why repl now)) ∧ Below w.heap.size w w'
  by_cases h2 : why = 2
  · rw [if_pos h2] at hd
    subst h2
    have HD := Lib.hid hd
    clear hd
    go_enter Try.func103, Try.ntmps103
    go_wp2
    go_ret
    exact ⟨ret_bool (by rw [HD.out]; try simp), below1 _ _⟩
  rw [if_neg h2] at hd
  have e2 : (why == 2) = false := beq_eq_false_iff_ne.2 h2
  by_cases h3 : why = 3
  · rw [if_pos h3] at hd
    subst h3
    have HD := Lib.hid hd
    clear hd e2 h2
    go_enter Try.func103, Try.ntmps103
    go_wp2
    go_ret
    exact ⟨ret_bool (by rw [HD.out]; try simp), below1 _ _⟩
  rw [if_neg h3] at hd
  have e3 : (why == 3) = false := beq_eq_false_iff_ne.2 h3
  by_cases h1 : why = 1
  · rw [if_pos h1] at hd
    subst h1
    have HD := Lib.hid hd
    clear hd e2 e3 h2 h3
    go_enter Try.func103, Try.ntmps103
    go_wp2
    go_ret
    exact ⟨ret_bool (by rw [HD.out]; try simp), below1 _ _⟩
  rw [if_neg h1] at hd
  have e1 : (why == 1) = false := beq_eq_false_iff_ne.2 h1
  have HD := Lib.hid hd
  clear hd h1 h2 h3
  go_enter Try.func103, Try.ntmps103
  go_wp2
  go_ret
  exact ⟨ret_bool (by rw [HD.out]; try simp), below1 _ _⟩

set_option maxHeartbeats 2000000 in
set_option maxRecDepth 100000 in
theorem audit_rule (p : Pol) (hp : p.In) (q : Option Addr) (cap : Nat) (past : List Adv) (hb : past.length ≤ 100000) (a : Adv) (ha : a.In) (w : World) (hq : Advs w q past) :
    Calls Try.prog 61 #[.agg #[.int .i64 p.mn, .int .i64 p.mx, .int .i64 p.tg, .int .i64 p.tl, .int .i64 p.wi, .int .i64 p.ho], .slice q past.length cap, .agg #[.int .i64 a.tick, .int .i64 a.load, .int .i64 a.want, .int .i64 a.repl, .int .i64 a.why]] w fun e w' => e = .returned (.int .i64 (Aud.rule p past a)) ∧ Below w.heap.size w w' := by
  have f1 := fun W : World => fun h : Advs W q past => decide_now p q cap past (by omega) W h
  have f2 := fun W : World => fun h : Advs W q past => steady_of p hp a.tick a.want ha.1 q cap past (by omega) W h
  have f3 := policy_has p a.repl
  have f4 := control_raw p hp a.load (Dec.now p past) ha.2.1
  have f5 := control_bound p (Adv.held p a.tick a.want past).1
  have f6 := audit_moved a (Dec.now p past)
  have hr : Aud.rule p past a = Aud.rule' a.why (Aud.has p a.repl) a.want (p.raw a.load (Dec.now p past)) a.repl (p.bound (Adv.held p a.tick a.want past).1) (Adv.held p a.tick a.want past).2 (Aud.moved a.why a.repl (Dec.now p past)) := rfl
  obtain ⟨r, er⟩ : ∃ x, x = Aud.rule p past a := ⟨_, rfl⟩
  rw [← er] at hr ⊢
  obtain ⟨now, enow⟩ : ∃ x, x = Dec.now p past := ⟨_, rfl⟩
  obtain ⟨hd, ehd⟩ : ∃ x, x = Adv.held p a.tick a.want past := ⟨_, rfl⟩
  obtain ⟨hs, ehs⟩ : ∃ x, x = Aud.has p a.repl := ⟨_, rfl⟩
  simp only [← enow] at f1 f4 f6 hr
  simp only [← ehd] at f2 f5 hr
  rw [← ehs] at f3 hr
  obtain ⟨rw', erw⟩ : ∃ x, x = p.raw a.load now := ⟨_, rfl⟩
  obtain ⟨mv, emv⟩ : ∃ x, x = Aud.moved a.why a.repl now := ⟨_, rfl⟩
  rw [← erw] at f4 hr
  rw [← emv] at f6 hr
  obtain ⟨hn, hh⟩ := hd
  simp only at f2 f5 hr
  obtain ⟨bd, ebd⟩ : ∃ x, x = p.bound hn := ⟨_, rfl⟩
  rw [← ebd] at f5 hr
  obtain ⟨m, em⟩ : ∃ n, n = past.length := ⟨_, rfl⟩
  simp only [← em] at f1 f2 ⊢
  obtain ⟨tick, load, want, repl, why⟩ := a
  simp only at f2 f3 f4 f5 f6 hr ⊢
  have F1 := Lib.hid f1
  have F2 := Lib.hid f2
  have F3 := Lib.hid f3
  have F4 := Lib.hid f4
  have F5 := Lib.hid f5
  have F6 := Lib.hid f6
  have HQ := Lib.hid hq
  unfold Aud.rule' at hr
  clear f1 f2 f3 f4 f5 f6 er enow ehd ehs erw emv ebd em hq hb ha hp
  have HR := Lib.hid hr
  clear hr
  go_enter Try.func61, Try.ntmps61
  go_wp2_with ((with_reducible refine wpList_load_rowAs rfl 23 _ rfl (w.heap.size) ?_ 23 #[.int .i64 p.mn, .int .i64 p.mx, .int .i64 p.tg, .int .i64 p.tl, .int .i64 p.wi, .int .i64 p.ho] (0, 0) _ 6 ?_ Try.underlying23 rfl (by kernel_rfl) ?_ ?_); exact rfl; exact (by first | (with_reducible exact heap_1_0 _ _) | (with_reducible exact heap_2_0 _ _ _) | (with_reducible exact heap_2_1 _ _ _) | (with_reducible exact heap_3_0 _ _ _ _) | (with_reducible exact heap_3_1 _ _ _ _) | (with_reducible exact heap_3_2 _ _ _ _) | (with_reducible exact heap_4_0 _ _ _ _ _) | (with_reducible exact heap_4_1 _ _ _ _ _) | (with_reducible exact heap_4_2 _ _ _ _ _) | (with_reducible exact heap_4_3 _ _ _ _ _) | (with_reducible exact heap_5_0 _ _ _ _ _ _) | (with_reducible exact heap_5_1 _ _ _ _ _ _) | (with_reducible exact heap_5_2 _ _ _ _ _ _) | (with_reducible exact heap_5_3 _ _ _ _ _ _) | (with_reducible exact heap_5_4 _ _ _ _ _ _) | (with_reducible exact heap_6_0 _ _ _ _ _ _ _) | (with_reducible exact heap_6_1 _ _ _ _ _ _ _) | (with_reducible exact heap_6_2 _ _ _ _ _ _ _) | (with_reducible exact heap_6_3 _ _ _ _ _ _ _) | (with_reducible exact heap_6_4 _ _ _ _ _ _ _) | (with_reducible exact heap_6_5 _ _ _ _ _ _ _) | simp only [heap_alloc_past, heap_alloc_at, World.size_alloc, Nat.add_assoc, Nat.reduceAdd, Nat.lt_add_right_iff_pos, Nat.add_lt_add_iff_left, Nat.reduceLT, Nat.zero_lt_succ, Nat.lt_add_one]); exact rfl)
  (with_reducible refine (F1.out _ (HQ.out.below (below2 _ _ _))).mono ?_)
  rintro e w1 ⟨rfl, hb1⟩
  have M1 := Lib.hid ((((Mem.start w).alloc (.cells #[.int .i64 p.mn, .int .i64 p.mx, .int .i64 p.tg, .int .i64 p.tl, .int .i64 p.wi, .int .i64 p.ho] 23)).allocAs (w.heap.size + 1) (.cells #[.int .i64 tick, .int .i64 load, .int .i64 want, .int .i64 repl, .int .i64 why] 56) (by simp)).call hb1)
  clear hb1
  have K0 := Lib.hid (M1.out.heap 0 rfl)
  have c0 := M1.out.cell 1 0 rfl rfl
  have c2 := M1.out.cell 1 2 rfl rfl
  go_wp2_with ((with_reducible refine wpList_load_rowAs rfl 23 _ rfl (w.heap.size) ?_ 23 #[.int .i64 p.mn, .int .i64 p.mx, .int .i64 p.tg, .int .i64 p.tl, .int .i64 p.wi, .int .i64 p.ho] (0, 0) _ 6 ?_ Try.underlying23 rfl (by kernel_rfl) ?_ ?_); exact rfl; exact K0.out; exact rfl)
  (with_reducible refine (F2.out _ (HQ.out.below M1.out.below)).mono ?_)
  rintro e w2 ⟨rfl, hb2⟩
  have M2 := Lib.hid (M1.out.call hb2)
  clear hb2 K0 c0 c2 M1
  have c4 := M2.out.cell 1 4 rfl rfl
  have c3 := M2.out.cell 1 3 rfl rfl
  by_cases t1 : why < 1
  · have d1 : decide (why < 1) = true := decide_eq_true t1
    have HE := Lib.hid (HR.out.trans (if_pos (.inl t1)))
    go_wp2
    go_ret
    exact ⟨ret_int HE.out.symm, M2.out.below⟩
  have d1 : decide (why < 1) = false := decide_eq_false t1
  by_cases t2 : 6 < why
  · have d2 : decide (6 < why) = true := decide_eq_true t2
    have HE := Lib.hid (HR.out.trans (if_pos (.inr t2)))
    go_wp2
    go_ret
    exact ⟨ret_int HE.out.symm, M2.out.below⟩
  have d2 : decide (6 < why) = false := decide_eq_false t2
  have H1 := Lib.hid (HR.out.trans (if_neg (by omega)))
  clear HR
  have K0 := Lib.hid (M2.out.heap 0 rfl)
  go_wp2_with ((with_reducible refine wpList_load_rowAs rfl 23 _ rfl (w.heap.size) ?_ 23 #[.int .i64 p.mn, .int .i64 p.mx, .int .i64 p.tg, .int .i64 p.tl, .int .i64 p.wi, .int .i64 p.ho] (0, 0) _ 6 ?_ Try.underlying23 rfl (by kernel_rfl) ?_ ?_); exact rfl; exact K0.out; exact rfl)
  (with_reducible refine (F3.out _).mono ?_)
  rintro e w3 ⟨rfl, hb3⟩
  have M3 := Lib.hid (M2.out.call hb3)
  clear hb3 K0 c3 c4 M2 t1 t2 d1 d2
  cases hs with
  | false =>
    have HE := Lib.hid (H1.out.trans (if_pos rfl))
    go_wp2
    go_ret
    exact ⟨ret_int HE.out.symm, M3.out.below⟩
  | true =>
    have H2 := Lib.hid (H1.out.trans (if_neg (by simp)))
    clear H1
    go_wp2
    have hst := stab_mem (w := w) (bs := [(w.heap.size, .cells #[.int .i64 p.mn, .int .i64 p.mx, .int .i64 p.tg, .int .i64 p.tl, .int .i64 p.wi, .int .i64 p.ho] 23), (w.heap.size + 1, .cells #[.int .i64 tick, .int .i64 load, .int .i64 want, .int .i64 repl, .int .i64 why] 56)])
    by_cases t3 : want = rw'
    · have H3 := Lib.hid (H2.out.trans (if_neg (fun h => h t3)))
      subst t3
      clear H2
      refine wp_region_E mixed [] hst (M3.out.drewN 1) ?_
      refine wpAnyE_take 0 (v := .pointer (some ⟨w.heap.size + 1, 2, none⟩)) rfl (by kernel_rfl) (by kernel_rfl) (by kernel_rfl) (fun _ _ _ h => h) hst (EffB.run rfl rfl (fun wd hS => ?_)) (.inr (EffB.run rfl rfl (fun wd hS => ?_))) ?_
      · (go_wp2; exact ⟨rfl, Below.refl _ _⟩)
      · (go_wp2; exact ⟨rfl, Below.refl _ _⟩)
      simp only [act_norm]
      refine wpAnyE_take 1 (v := .int .i64 want) rfl (by kernel_rfl) (by kernel_rfl) (by kernel_rfl) (fun _ _ _ h => h) hst (EffB.run rfl rfl (fun wd hS => ?_)) (.inl (by kernel_rfl)) ?_
      · (have c2 : wd.cell? ⟨w.heap.size + 1, 2, none⟩ = some (.int .i64 want) := by rw [cell_of_row _ _ _ _ _ _ (hS.heap 1 rfl)]; rfl); go_wp2; exact ⟨rfl, Below.refl _ _⟩
      simp only [act_norm]
      refine wpAnyE_take 2 (v := .agg #[.int .i64 p.mn, .int .i64 p.mx, .int .i64 p.tg, .int .i64 p.tl, .int .i64 p.wi, .int .i64 p.ho]) rfl (by kernel_rfl) (by kernel_rfl) (by kernel_rfl) (fun _ _ _ h => h) hst (EffB.run rfl rfl (fun wd hS => ?_)) (.inl (by kernel_rfl)) ?_
      · exact wp_load_row 23 _ rfl (w.heap.size) rfl 23 #[.int .i64 p.mn, .int .i64 p.mx, .int .i64 p.tg, .int .i64 p.tl, .int .i64 p.wi, .int .i64 p.ho] (0, 0) _ (hS.heap 0 rfl) Try.underlying23 rfl (by kernel_rfl) ⟨rfl, Below.refl _ _⟩
      simp only [act_norm]
      refine wpAnyE_take 3 (v := .pointer (some ⟨w.heap.size + 1, 1, none⟩)) rfl (by kernel_rfl) (by kernel_rfl) (by kernel_rfl) (fun _ _ _ h => h) hst (EffB.run rfl rfl (fun wd hS => ?_)) (.inr (EffB.run rfl rfl (fun wd hS => ?_))) ?_
      · (go_wp2; exact ⟨rfl, Below.refl _ _⟩)
      · (go_wp2; exact ⟨rfl, Below.refl _ _⟩)
      simp only [act_norm]
      refine wpAnyE_take 4 (v := .int .i64 load) rfl (by kernel_rfl) (by kernel_rfl) (by kernel_rfl) (fun _ _ _ h => h) hst (EffB.run rfl rfl (fun wd hS => ?_)) (.inl (by kernel_rfl)) ?_
      · (have c2 : wd.cell? ⟨w.heap.size + 1, 1, none⟩ = some (.int .i64 load) := by rw [cell_of_row _ _ _ _ _ _ (hS.heap 1 rfl)]; rfl); go_wp2; exact ⟨rfl, Below.refl _ _⟩
      simp only [act_norm]
      refine wpAnyE_take 5 rfl (by kernel_rfl) (by kernel_rfl) (by kernel_rfl) (fun _ _ _ h => h) hst (EffB.pure rfl (fun _ => rfl)) (.inr (EffB.pure rfl (fun _ => rfl))) ?_
      simp only [act_norm]
      refine wpAnyE_take 6 (v := .int .i64 want) rfl (by kernel_rfl) (by kernel_rfl) (by kernel_rfl) (fun _ _ _ h => h) hst (EffB.run rfl rfl (fun wd hS => ?_)) (.inl (by kernel_rfl)) ?_
      · (go_wp2_with fail; (with_reducible refine (F4.out wd).mono ?_); rintro e w'' ⟨rfl, hb⟩; exact ⟨rfl, hb⟩)
      simp only [act_norm]
      refine wpAnyE_take 7 (v := .bool false) rfl (by kernel_rfl) (by kernel_rfl) (by kernel_rfl) (fun _ _ _ h => h) hst (EffB.run rfl rfl (fun wd hS => ?_)) (.inr (EffB.run rfl rfl (fun wd hS => ?_))) ?_
      · (go_wp2; exact ⟨rfl, Below.refl _ _⟩)
      · (go_wp2; exact ⟨rfl, Below.refl _ _⟩)
      simp only [act_norm]
      refine wpAnyE_take 8 rfl (by kernel_rfl) (by kernel_rfl) (by kernel_rfl) (fun _ _ _ h => h) hst (EffB.pure rfl (fun _ => rfl)) (.inr (EffB.pure rfl (fun _ => rfl))) ?_
      simp only [act_norm]
      refine wpAnyE_done (by kernel_rfl) (fun wd hS => ?_) _
      have M4 := Lib.hid hS
      clear hS M3
      go_wp2_with fail
      by_cases t4 : repl = bd
      · obtain ⟨b4, eb4⟩ : ∃ b, (why == 4) = b := ⟨_, rfl⟩
        have H4 := Lib.hid (H3.out)
        subst t4
        refine wp_region_E mixed [] hst (M4.out.drewN 1) ?_
        refine wpAnyE_take 0 (v := .pointer (some ⟨w.heap.size + 1, 3, none⟩)) rfl (by kernel_rfl) (by kernel_rfl) (by kernel_rfl) (fun _ _ _ h => h) hst (EffB.run rfl rfl (fun wd hS => ?_)) (.inr (EffB.run rfl rfl (fun wd hS => ?_))) ?_
        · (go_wp2; exact ⟨rfl, Below.refl _ _⟩)
        · (go_wp2; exact ⟨rfl, Below.refl _ _⟩)
        simp only [act_norm]
        refine wpAnyE_take 1 (v := .int .i64 repl) rfl (by kernel_rfl) (by kernel_rfl) (by kernel_rfl) (fun _ _ _ h => h) hst (EffB.run rfl rfl (fun wd hS => ?_)) (.inl (by kernel_rfl)) ?_
        · (have c2 : wd.cell? ⟨w.heap.size + 1, 3, none⟩ = some (.int .i64 repl) := by rw [cell_of_row _ _ _ _ _ _ (hS.heap 1 rfl)]; rfl); go_wp2; exact ⟨rfl, Below.refl _ _⟩
        simp only [act_norm]
        refine wpAnyE_take 2 (v := .agg #[.int .i64 p.mn, .int .i64 p.mx, .int .i64 p.tg, .int .i64 p.tl, .int .i64 p.wi, .int .i64 p.ho]) rfl (by kernel_rfl) (by kernel_rfl) (by kernel_rfl) (fun _ _ _ h => h) hst (EffB.run rfl rfl (fun wd hS => ?_)) (.inl (by kernel_rfl)) ?_
        · exact wp_load_row 23 _ rfl (w.heap.size) rfl 23 #[.int .i64 p.mn, .int .i64 p.mx, .int .i64 p.tg, .int .i64 p.tl, .int .i64 p.wi, .int .i64 p.ho] (0, 0) _ (hS.heap 0 rfl) Try.underlying23 rfl (by kernel_rfl) ⟨rfl, Below.refl _ _⟩
        simp only [act_norm]
        refine wpAnyE_take 3 rfl (by kernel_rfl) (by kernel_rfl) (by kernel_rfl) (fun _ _ _ h => h) hst (EffB.pure rfl (fun _ => rfl)) (.inr (EffB.pure rfl (fun _ => rfl))) ?_
        simp only [act_norm]
        refine wpAnyE_take 4 (v := .int .i64 repl) rfl (by kernel_rfl) (by kernel_rfl) (by kernel_rfl) (fun _ _ _ h => h) hst (EffB.run rfl rfl (fun wd hS => ?_)) (.inl (by kernel_rfl)) ?_
        · (go_wp2_with fail; (with_reducible refine (F5.out wd).mono ?_); rintro e w'' ⟨rfl, hb⟩; exact ⟨rfl, hb⟩)
        simp only [act_norm]
        refine wpAnyE_take 5 (v := .bool false) rfl (by kernel_rfl) (by kernel_rfl) (by kernel_rfl) (fun _ _ _ h => h) hst (EffB.run rfl rfl (fun wd hS => ?_)) (.inr (EffB.run rfl rfl (fun wd hS => ?_))) ?_
        · (go_wp2; exact ⟨rfl, Below.refl _ _⟩)
        · (go_wp2; exact ⟨rfl, Below.refl _ _⟩)
        simp only [act_norm]
        refine wpAnyE_take 6 rfl (by kernel_rfl) (by kernel_rfl) (by kernel_rfl) (fun _ _ _ h => h) hst (EffB.pure rfl (fun _ => rfl)) (.inr (EffB.pure rfl (fun _ => rfl))) ?_
        simp only [act_norm]
        refine wpAnyE_take 7 rfl (by kernel_rfl) (by kernel_rfl) (by kernel_rfl) (fun _ _ _ h => h) hst (EffB.pure rfl (fun _ => rfl)) (.inr (EffB.pure rfl (fun _ => rfl))) ?_
        simp only [act_norm]
        refine wpAnyE_take 8 (v := .pointer (some ⟨w.heap.size + 1, 4, none⟩)) rfl (by kernel_rfl) (by kernel_rfl) (by kernel_rfl) (fun _ _ _ h => h) hst (EffB.run rfl rfl (fun wd hS => ?_)) (.inr (EffB.run rfl rfl (fun wd hS => ?_))) ?_
        · (go_wp2; exact ⟨rfl, Below.refl _ _⟩)
        · (go_wp2; exact ⟨rfl, Below.refl _ _⟩)
        simp only [act_norm]
        refine wpAnyE_take 9 (v := .int .i64 why) rfl (by kernel_rfl) (by kernel_rfl) (by kernel_rfl) (fun _ _ _ h => h) hst (EffB.run rfl rfl (fun wd hS => ?_)) (.inl (by kernel_rfl)) ?_
        · (have c2 : wd.cell? ⟨w.heap.size + 1, 4, none⟩ = some (.int .i64 why) := by rw [cell_of_row _ _ _ _ _ _ (hS.heap 1 rfl)]; rfl); go_wp2; exact ⟨rfl, Below.refl _ _⟩
        simp only [act_norm]
        refine wpAnyE_take 10 (v := .bool b4) rfl (by kernel_rfl) (by kernel_rfl) (by kernel_rfl) (fun _ _ _ h => h) hst (EffB.run rfl rfl (fun wd hS => ?_)) (.inr (EffB.run rfl rfl (fun wd hS => ?_))) ?_
        · (go_wp2; exact ⟨rfl, Below.refl _ _⟩)
        · (go_wp2; exact ⟨rfl, Below.refl _ _⟩)
        simp only [act_norm]
        refine wpAnyE_take 11 (v := .bool (hh != b4)) rfl (by kernel_rfl) (by kernel_rfl) (by kernel_rfl) (fun _ _ _ h => h) hst (EffB.run rfl rfl (fun wd hS => ?_)) (.inr (EffB.run rfl rfl (fun wd hS => ?_))) ?_
        · (go_wp2; exact ⟨rfl, Below.refl _ _⟩)
        · (go_wp2; exact ⟨rfl, Below.refl _ _⟩)
        simp only [act_norm]
        refine wpAnyE_take 12 (v := .bool (hh != b4)) rfl (by kernel_rfl) (by kernel_rfl) (by kernel_rfl) (fun _ _ _ h => h) hst (EffB.run rfl rfl (fun wd hS => ?_)) (.inr (EffB.run rfl rfl (fun wd hS => ?_))) ?_
        · (go_wp2; exact ⟨rfl, Below.refl _ _⟩)
        · (go_wp2; exact ⟨rfl, Below.refl _ _⟩)
        simp only [act_norm]
        refine wpAnyE_take 13 rfl (by kernel_rfl) (by kernel_rfl) (by kernel_rfl) (fun _ _ _ h => h) hst (EffB.pure rfl (fun _ => rfl)) (.inr (EffB.pure rfl (fun _ => rfl))) ?_
        simp only [act_norm]
        refine wpAnyE_done (by kernel_rfl) (fun wd hS => ?_) _
        have M5 := Lib.hid hS
        have K5 := Lib.hid (M5.out.heap 1 rfl)
        clear hS hst M4
        obtain ⟨b5, e5⟩ : ∃ b, b = (hh != b4) := ⟨_, rfl⟩
        rw [← e5]
        by_cases t5 : hh = b4
        · obtain rfl : b5 = false := by rw [e5]; simp [t5]
          have H5 := Lib.hid (H4.out.trans (if_neg (by rw [eb4]; simp [t5])))
          clear H4 e5 t5 eb4
          go_wp2_with ((with_reducible refine wpList_load_rowAs rfl 56 _ rfl ((w.heap.size + 1)) ?_ 56 #[.int .i64 tick, .int .i64 load, .int .i64 want, .int .i64 repl, .int .i64 why] (0, 0) _ 5 ?_ Try.underlying56 rfl (by kernel_rfl) ?_ ?_); exact rfl; exact K5.out; exact rfl)
          (with_reducible refine (F6.out _).mono ?_)
          rintro e w6 ⟨rfl, hb6⟩
          have M6 := Lib.hid (M5.out.call hb6)
          clear hb6 K5 M5
          cases mv with
          | false =>
            have HE := Lib.hid (H5.out.trans (if_pos rfl))
            go_wp2
            go_ret
            exact ⟨ret_int HE.out.symm, M6.out.below⟩
          | true =>
            have HE := Lib.hid (H5.out.trans (if_neg (by simp)))
            go_wp2
            go_ret
            exact ⟨ret_int HE.out.symm, M6.out.below⟩
        · obtain rfl : b5 = true := by rw [e5]; simpa using t5
          clear e5
          have HE := Lib.hid (H4.out.trans (if_pos (by rw [eb4]; exact .inr t5)))
          go_wp2
          go_ret
          exact ⟨ret_int HE.out.symm, M5.out.below⟩
      · have d4 : (repl != bd) = true := by simpa using t4
        have HE := Lib.hid (H3.out.trans (if_pos (.inl t4)))
        clear H3
        refine wp_region_E mixed [] hst (M4.out.drewN 1) ?_
        refine wpAnyE_take 0 (v := .pointer (some ⟨w.heap.size + 1, 3, none⟩)) rfl (by kernel_rfl) (by kernel_rfl) (by kernel_rfl) (fun _ _ _ h => h) hst (EffB.run rfl rfl (fun wd hS => ?_)) (.inr (EffB.run rfl rfl (fun wd hS => ?_))) ?_
        · (go_wp2; exact ⟨rfl, Below.refl _ _⟩)
        · (go_wp2; exact ⟨rfl, Below.refl _ _⟩)
        simp only [act_norm]
        refine wpAnyE_take 1 (v := .int .i64 repl) rfl (by kernel_rfl) (by kernel_rfl) (by kernel_rfl) (fun _ _ _ h => h) hst (EffB.run rfl rfl (fun wd hS => ?_)) (.inl (by kernel_rfl)) ?_
        · (have c2 : wd.cell? ⟨w.heap.size + 1, 3, none⟩ = some (.int .i64 repl) := by rw [cell_of_row _ _ _ _ _ _ (hS.heap 1 rfl)]; rfl); go_wp2; exact ⟨rfl, Below.refl _ _⟩
        simp only [act_norm]
        refine wpAnyE_take 2 (v := .agg #[.int .i64 p.mn, .int .i64 p.mx, .int .i64 p.tg, .int .i64 p.tl, .int .i64 p.wi, .int .i64 p.ho]) rfl (by kernel_rfl) (by kernel_rfl) (by kernel_rfl) (fun _ _ _ h => h) hst (EffB.run rfl rfl (fun wd hS => ?_)) (.inl (by kernel_rfl)) ?_
        · exact wp_load_row 23 _ rfl (w.heap.size) rfl 23 #[.int .i64 p.mn, .int .i64 p.mx, .int .i64 p.tg, .int .i64 p.tl, .int .i64 p.wi, .int .i64 p.ho] (0, 0) _ (hS.heap 0 rfl) Try.underlying23 rfl (by kernel_rfl) ⟨rfl, Below.refl _ _⟩
        simp only [act_norm]
        refine wpAnyE_take 3 rfl (by kernel_rfl) (by kernel_rfl) (by kernel_rfl) (fun _ _ _ h => h) hst (EffB.pure rfl (fun _ => rfl)) (.inr (EffB.pure rfl (fun _ => rfl))) ?_
        simp only [act_norm]
        refine wpAnyE_take 4 (v := .int .i64 bd) rfl (by kernel_rfl) (by kernel_rfl) (by kernel_rfl) (fun _ _ _ h => h) hst (EffB.run rfl rfl (fun wd hS => ?_)) (.inl (by kernel_rfl)) ?_
        · (go_wp2_with fail; (with_reducible refine (F5.out wd).mono ?_); rintro e w'' ⟨rfl, hb⟩; exact ⟨rfl, hb⟩)
        simp only [act_norm]
        refine wpAnyE_take 5 (v := .bool true) rfl (by kernel_rfl) (by kernel_rfl) (by kernel_rfl) (fun _ _ _ h => h) hst (EffB.run rfl rfl (fun wd hS => ?_)) (.inr (EffB.run rfl rfl (fun wd hS => ?_))) ?_
        · (go_wp2; exact ⟨rfl, Below.refl _ _⟩)
        · (go_wp2; exact ⟨rfl, Below.refl _ _⟩)
        simp only [act_norm]
        refine wpAnyE_take 6 rfl (by kernel_rfl) (by kernel_rfl) (by kernel_rfl) (fun _ _ _ h => h) hst (EffB.pure rfl (fun _ => rfl)) (.inr (EffB.pure rfl (fun _ => rfl))) ?_
        simp only [act_norm]
        refine wpAnyE_take 7 rfl (by kernel_rfl) (by kernel_rfl) (by kernel_rfl) (fun _ _ _ h => h) hst (EffB.skip rfl) (.inr (EffB.skip rfl)) ?_
        simp only [act_norm]
        refine wpAnyE_take 8 rfl (by kernel_rfl) (by kernel_rfl) (by kernel_rfl) (fun _ _ _ h => h) hst (EffB.skip rfl) (.inr (EffB.skip rfl)) ?_
        simp only [act_norm]
        refine wpAnyE_take 9 rfl (by kernel_rfl) (by kernel_rfl) (by kernel_rfl) (fun _ _ _ h => h) hst (EffB.skip rfl) (.inr (EffB.skip rfl)) ?_
        simp only [act_norm]
        refine wpAnyE_take 10 rfl (by kernel_rfl) (by kernel_rfl) (by kernel_rfl) (fun _ _ _ h => h) hst (EffB.skip rfl) (.inr (EffB.skip rfl)) ?_
        simp only [act_norm]
        refine wpAnyE_take 11 rfl (by kernel_rfl) (by kernel_rfl) (by kernel_rfl) (fun _ _ _ h => h) hst (EffB.skip rfl) (.inr (EffB.skip rfl)) ?_
        simp only [act_norm]
        refine wpAnyE_take 12 (v := .bool true) rfl (by kernel_rfl) (by kernel_rfl) (by kernel_rfl) (fun _ _ _ h => h) hst (EffB.run rfl rfl (fun wd hS => ?_)) (.inr (EffB.run rfl rfl (fun wd hS => ?_))) ?_
        · (go_wp2; exact ⟨rfl, Below.refl _ _⟩)
        · (go_wp2; exact ⟨rfl, Below.refl _ _⟩)
        simp only [act_norm]
        refine wpAnyE_take 13 rfl (by kernel_rfl) (by kernel_rfl) (by kernel_rfl) (fun _ _ _ h => h) hst (EffB.pure rfl (fun _ => rfl)) (.inr (EffB.pure rfl (fun _ => rfl))) ?_
        simp only [act_norm]
        refine wpAnyE_done (by kernel_rfl) (fun wd hS => ?_) _
        have M5 := Lib.hid hS
        clear hS hst M4
        go_wp2
        go_ret
        exact ⟨ret_int HE.out.symm, M5.out.below⟩
    · have d3 : (want != rw') = true := by simpa using t3
      have HE := Lib.hid (H2.out.trans (if_pos t3))
      clear H2
      refine wp_region_E mixed [] hst (M3.out.drewN 1) ?_
      refine wpAnyE_take 0 (v := .pointer (some ⟨w.heap.size + 1, 2, none⟩)) rfl (by kernel_rfl) (by kernel_rfl) (by kernel_rfl) (fun _ _ _ h => h) hst (EffB.run rfl rfl (fun wd hS => ?_)) (.inr (EffB.run rfl rfl (fun wd hS => ?_))) ?_
      · (go_wp2; exact ⟨rfl, Below.refl _ _⟩)
      · (go_wp2; exact ⟨rfl, Below.refl _ _⟩)
      simp only [act_norm]
      refine wpAnyE_take 1 (v := .int .i64 want) rfl (by kernel_rfl) (by kernel_rfl) (by kernel_rfl) (fun _ _ _ h => h) hst (EffB.run rfl rfl (fun wd hS => ?_)) (.inl (by kernel_rfl)) ?_
      · (have c2 : wd.cell? ⟨w.heap.size + 1, 2, none⟩ = some (.int .i64 want) := by rw [cell_of_row _ _ _ _ _ _ (hS.heap 1 rfl)]; rfl); go_wp2; exact ⟨rfl, Below.refl _ _⟩
      simp only [act_norm]
      refine wpAnyE_take 2 (v := .agg #[.int .i64 p.mn, .int .i64 p.mx, .int .i64 p.tg, .int .i64 p.tl, .int .i64 p.wi, .int .i64 p.ho]) rfl (by kernel_rfl) (by kernel_rfl) (by kernel_rfl) (fun _ _ _ h => h) hst (EffB.run rfl rfl (fun wd hS => ?_)) (.inl (by kernel_rfl)) ?_
      · exact wp_load_row 23 _ rfl (w.heap.size) rfl 23 #[.int .i64 p.mn, .int .i64 p.mx, .int .i64 p.tg, .int .i64 p.tl, .int .i64 p.wi, .int .i64 p.ho] (0, 0) _ (hS.heap 0 rfl) Try.underlying23 rfl (by kernel_rfl) ⟨rfl, Below.refl _ _⟩
      simp only [act_norm]
      refine wpAnyE_take 3 (v := .pointer (some ⟨w.heap.size + 1, 1, none⟩)) rfl (by kernel_rfl) (by kernel_rfl) (by kernel_rfl) (fun _ _ _ h => h) hst (EffB.run rfl rfl (fun wd hS => ?_)) (.inr (EffB.run rfl rfl (fun wd hS => ?_))) ?_
      · (go_wp2; exact ⟨rfl, Below.refl _ _⟩)
      · (go_wp2; exact ⟨rfl, Below.refl _ _⟩)
      simp only [act_norm]
      refine wpAnyE_take 4 (v := .int .i64 load) rfl (by kernel_rfl) (by kernel_rfl) (by kernel_rfl) (fun _ _ _ h => h) hst (EffB.run rfl rfl (fun wd hS => ?_)) (.inl (by kernel_rfl)) ?_
      · (have c2 : wd.cell? ⟨w.heap.size + 1, 1, none⟩ = some (.int .i64 load) := by rw [cell_of_row _ _ _ _ _ _ (hS.heap 1 rfl)]; rfl); go_wp2; exact ⟨rfl, Below.refl _ _⟩
      simp only [act_norm]
      refine wpAnyE_take 5 rfl (by kernel_rfl) (by kernel_rfl) (by kernel_rfl) (fun _ _ _ h => h) hst (EffB.pure rfl (fun _ => rfl)) (.inr (EffB.pure rfl (fun _ => rfl))) ?_
      simp only [act_norm]
      refine wpAnyE_take 6 (v := .int .i64 rw') rfl (by kernel_rfl) (by kernel_rfl) (by kernel_rfl) (fun _ _ _ h => h) hst (EffB.run rfl rfl (fun wd hS => ?_)) (.inl (by kernel_rfl)) ?_
      · (go_wp2_with fail; (with_reducible refine (F4.out wd).mono ?_); rintro e w'' ⟨rfl, hb⟩; exact ⟨rfl, hb⟩)
      simp only [act_norm]
      refine wpAnyE_take 7 (v := .bool true) rfl (by kernel_rfl) (by kernel_rfl) (by kernel_rfl) (fun _ _ _ h => h) hst (EffB.run rfl rfl (fun wd hS => ?_)) (.inr (EffB.run rfl rfl (fun wd hS => ?_))) ?_
      · (go_wp2; exact ⟨rfl, Below.refl _ _⟩)
      · (go_wp2; exact ⟨rfl, Below.refl _ _⟩)
      simp only [act_norm]
      refine wpAnyE_take 8 rfl (by kernel_rfl) (by kernel_rfl) (by kernel_rfl) (fun _ _ _ h => h) hst (EffB.pure rfl (fun _ => rfl)) (.inr (EffB.pure rfl (fun _ => rfl))) ?_
      simp only [act_norm]
      refine wpAnyE_done (by kernel_rfl) (fun wd hS => ?_) _
      have M4 := Lib.hid hS
      clear hS M3 hst
      go_wp2
      go_ret
      exact ⟨ret_int HE.out.symm, M4.out.below⟩
end Go.Proofs.Ytcanbagnehdbiaa
