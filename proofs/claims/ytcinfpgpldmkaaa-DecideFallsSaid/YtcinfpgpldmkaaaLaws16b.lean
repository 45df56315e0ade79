/- Layer 16: the laws, walked: what is told; what falls. -/
import Derived.Test.YtcinfpgpldmkaaaLaws16
namespace Go.Proofs.Ytcinfpgpldmkaaa
open Go.ChangeShapes Go.WideShapes Go.ChangeAt Go.RowKit

theorem Pol.bound_in {p : Pol} (h : p.ok = true) (n : Int) : p.mn ≤ p.bound n ∧ p.bound n ≤ p.mx := by
  have hf := Pol.fine h
  unfold Pol.Fine at hf
  unfold Pol.bound Sat.clampTo
  rw [if_pos h]
  split
  · omega
  · split <;> omega
theorem Dec.err_zero {p : Pol} {l : List Samp} (h : Dec.err p l = 0) : p.ok = true ∧ l.length ≠ 0 := by
  unfold Dec.err at h
  split at h
  · rename_i h1
    split at h
    · omega
    · rename_i h2; exact ⟨h1, h2⟩
  · omega
theorem Dec.of_in {p : Pol} {l : List Samp} {past : List Adv} (h : Dec.err p l = 0) : p.mn ≤ (Dec.of p l past).repl ∧ (Dec.of p l past).repl ≤ p.mx := by
  unfold Dec.of
  rw [if_pos h]
  exact Pol.bound_in (Dec.err_zero h).1 _

set_option maxHeartbeats 1000000 in
set_option maxRecDepth 100000 in
theorem decideTells_walk (p : Pol) (hp : p.In) (sp : Option Addr) (sc : Nat) (l : List Samp) (hin : ∀ a ∈ l, a.In) (hb : l.length ≤ 9223372036854775807) (q : Option Addr) (cap : Nat) (past : List Adv) (hpa : ∀ a ∈ past, a.In) (hb2 : past.length ≤ 9223372036854775807)
    (w : World) (hs : Samps w sp l) (hq : Advs w q past) :
    Calls Try.prog 5 #[.agg #[.int .i64 p.mn, .int .i64 p.mx, .int .i64 p.tg, .int .i64 p.tl, .int .i64 p.wi, .int .i64 p.ho], .slice sp l.length sc, .slice q past.length cap] w fun e w' => e = .returned (.bool true) ∧ Below w.heap.size w w' := by
  obtain ⟨n, en⟩ : ∃ n, n = l.length := ⟨_, rfl⟩
  obtain ⟨m, em⟩ : ∃ n, n = past.length := ⟨_, rfl⟩
  by_cases h1 : 40 < n
  · rw [← en] at hb ⊢
    rw [← em] at hb2 ⊢
    clear en em hs hq hin hpa
    go_enter Try.func5, Try.ntmps5
    go_wp2_with fail
    (with_reducible refine (awake16 _).mono ?_)
    rintro e w1 ⟨rfl, hb1⟩
    have M1 := Lib.hid (((Mem.start w).alloc (.cells #[.int .i64 p.mn, .int .i64 p.mx, .int .i64 p.tg, .int .i64 p.tl, .int .i64 p.wi, .int .i64 p.ho] 44)).call hb1)
    clear hb1
    go_wp2
    go_ret
    exact ⟨rfl, M1.out.below⟩
  by_cases h2 : 40 < m
  · rw [← en] at hb ⊢
    rw [← em] at hb2 ⊢
    clear en em hs hq hin hpa
    go_enter Try.func5, Try.ntmps5
    go_wp2_with fail
    (with_reducible refine (awake16 _).mono ?_)
    rintro e w1 ⟨rfl, hb1⟩
    have M1 := Lib.hid (((Mem.start w).alloc (.cells #[.int .i64 p.mn, .int .i64 p.mx, .int .i64 p.tg, .int .i64 p.tl, .int .i64 p.wi, .int .i64 p.ho] 44)).call hb1)
    clear hb1
    go_wp2
    go_ret
    exact ⟨rfl, M1.out.below⟩
  have f1 := fun W : World => fun h1 : Samps W sp l => fun h2 : Advs W q past => decide_of p hp sp sc l hin (by omega) q cap past hpa (by omega) _ rfl W h1 h2
  have f2 := fun W : World => fun h1 : Samps W sp l => fun h2 : Advs W q past => ref16_of p hp sp sc l hin (by omega) q cap past hpa (by omega) _ rfl W h1 h2
  have f3 := fun W : World => fun h1 : Advs W q past => decide_now p q cap past (by omega) W h1
  have f4 := fun W : World => fun h1 : Advs W q past => ref16_now p q cap past (by omega) W h1
  have hz := @Dec.of_in p l past
  obtain ⟨o, eo⟩ : ∃ o, o = Dec.of p l past := ⟨_, rfl⟩
  obtain ⟨er, eer⟩ : ∃ o, o = Dec.err p l := ⟨_, rfl⟩
  obtain ⟨nw, enw⟩ : ∃ o, o = Dec.now p past := ⟨_, rfl⟩
  simp only [← eo, ← eer] at f1 f2 hz
  simp only [← enw] at f3 f4
  rw [← en] at hb
  rw [← em] at hb2
  simp only [← en] at f1 f2 ⊢
  simp only [← em] at f1 f2 f3 f4 ⊢
  have F1 := Lib.hid f1
  have F2 := Lib.hid f2
  have F3 := Lib.hid f3
  have F4 := Lib.hid f4
  have HS := Lib.hid hs
  have HQ := Lib.hid hq
  have HZ := Lib.hid hz
  obtain ⟨tick, load, want, repl, why⟩ := o
  clear f1 f2 f3 f4 hz eo eer enw en em hs hq hin hpa hp
  go_enter Try.func5, Try.ntmps5
  go_wp2_with fail
  (with_reducible refine (awake16 _).mono ?_)
  rintro e w1 ⟨rfl, hb1⟩
  have M1 := Lib.hid (((Mem.start w).alloc (.cells #[.int .i64 p.mn, .int .i64 p.mx, .int .i64 p.tg, .int .i64 p.tl, .int .i64 p.wi, .int .i64 p.ho] 44)).call hb1)
  have K0 := Lib.hid (M1.out.heap 0 rfl)
  clear hb1
  go_wp2_with ((with_reducible refine wpList_load_rowAs rfl 44 _ rfl (w.heap.size) ?_ 44 #[.int .i64 p.mn, .int .i64 p.mx, .int .i64 p.tg, .int .i64 p.tl, .int .i64 p.wi, .int .i64 p.ho] (0, 0) _ 6 ?_ Try.underlying44 rfl (by kernel_rfl) ?_ ?_); exact rfl; exact K0.out; exact rfl)
  (with_reducible refine (F1.out _ (HS.out.below M1.out.below) (HQ.out.below M1.out.below)).mono ?_)
  rintro e w2 ⟨rfl, hb2⟩
  have M2 := Lib.hid ((M1.out.call hb2).alloc (.cells #[.int .i64 tick, .int .i64 load, .int .i64 want, .int .i64 repl, .int .i64 why] 24))
  have K2 := Lib.hid (M2.out.heap 0 rfl)
  clear hb2 M1 K0
  go_wp2_with (first | ((with_reducible refine wpList_store_rowAs rfl 24 _ _ rfl (w2.heap.size) #[.int .i64 tick, .int .i64 load, .int .i64 want, .int .i64 repl, .int .i64 why] ?_ ?_ 24 #[.int .i64 0, .int .i64 0, .int .i64 0, .int .i64 0, .int .i64 0] 5 ?_ (by kernel_rfl) rfl rfl (by simp [Value.oneCell']) ?_); exact rfl; exact rfl; exact (heap_alloc_at _ _ _ rfl); (first | rw [row_1_0] | rw [row_2_0] | rw [row_2_1] | rw [row_3_0] | rw [row_3_1] | rw [row_3_2] | rw [row_4_0] | rw [row_4_1] | rw [row_4_2] | rw [row_4_3] | rw [row_5_0] | rw [row_5_1] | rw [row_5_2] | rw [row_5_3] | rw [row_5_4] | rw [row_6_0] | rw [row_6_1] | rw [row_6_2] | rw [row_6_3] | rw [row_6_4] | rw [row_6_5] | simp only [setRow_alloc_past, setRow_alloc_at, World.size_alloc, Nat.add_assoc, Nat.reduceAdd, Nat.lt_add_right_iff_pos, Nat.add_lt_add_iff_left, Nat.reduceLT, Nat.zero_lt_succ, Nat.lt_add_one])) | ((with_reducible refine wpList_load_rowAs rfl 44 _ rfl (w.heap.size) ?_ 44 #[.int .i64 p.mn, .int .i64 p.mx, .int .i64 p.tg, .int .i64 p.tl, .int .i64 p.wi, .int .i64 p.ho] (0, 0) _ 6 ?_ Try.underlying44 rfl (by kernel_rfl) ?_ ?_); exact rfl; exact K2.out; exact rfl))
  (with_reducible refine (F2.out _ (HS.out.below M2.out.below) (HQ.out.below M2.out.below)).mono ?_)
  rintro e w3 ⟨rfl, hb3⟩
  have M3 := Lib.hid ((M2.out.call hb3).alloc (.cells #[.int .i64 tick, .int .i64 load, .int .i64 want, .int .i64 repl, .int .i64 why] 24))
  clear hb3 M2 K2
  go_wp2_with ((with_reducible refine wpList_store_rowAs rfl 24 _ _ rfl (w3.heap.size) #[.int .i64 tick, .int .i64 load, .int .i64 want, .int .i64 repl, .int .i64 why] ?_ ?_ 24 #[.int .i64 0, .int .i64 0, .int .i64 0, .int .i64 0, .int .i64 0] 5 ?_ (by kernel_rfl) rfl rfl (by simp [Value.oneCell']) ?_); exact rfl; exact rfl; exact (heap_alloc_at _ _ _ rfl); (first | rw [row_1_0] | rw [row_2_0] | rw [row_2_1] | rw [row_3_0] | rw [row_3_1] | rw [row_3_2] | rw [row_4_0] | rw [row_4_1] | rw [row_4_2] | rw [row_4_3] | rw [row_5_0] | rw [row_5_1] | rw [row_5_2] | rw [row_5_3] | rw [row_5_4] | rw [row_6_0] | rw [row_6_1] | rw [row_6_2] | rw [row_6_3] | rw [row_6_4] | rw [row_6_5] | simp only [setRow_alloc_past, setRow_alloc_at, World.size_alloc, Nat.add_assoc, Nat.reduceAdd, Nat.lt_add_right_iff_pos, Nat.add_lt_add_iff_left, Nat.reduceLT, Nat.zero_lt_succ, Nat.lt_add_one]))
  have hst := stab_and (stab_mem (w := w) (bs := [(w.heap.size, .cells #[.int .i64 p.mn, .int .i64 p.mx, .int .i64 p.tg, .int .i64 p.tl, .int .i64 p.wi, .int .i64 p.ho] 44), (w2.heap.size, .cells #[.int .i64 tick, .int .i64 load, .int .i64 want, .int .i64 repl, .int .i64 why] 24), (w3.heap.size, .cells #[.int .i64 tick, .int .i64 load, .int .i64 want, .int .i64 repl, .int .i64 why] 24)])) (stab_advs (q := q) (l := past))
  refine wp_region_E mixed [] hst ⟨M3.out.drewN 1, HQ.out.below (M3.out.drewN 1).below⟩ ?_
  refine wpAnyE_take 0 (v := .agg #[.int .i64 tick, .int .i64 load, .int .i64 want, .int .i64 repl, .int .i64 why]) rfl (by kernel_rfl) (by kernel_rfl) (by kernel_rfl) (fun _ _ _ h => h) hst (EffB.run rfl rfl (fun wd hS => ?_)) (.inl (by kernel_rfl)) ?_
  · exact wp_load_row 24 _ rfl (w2.heap.size) rfl 24 #[.int .i64 tick, .int .i64 load, .int .i64 want, .int .i64 repl, .int .i64 why] (0, 0) _ (hS.1.heap 1 rfl) Try.underlying24 rfl (by kernel_rfl) ⟨rfl, Below.refl _ _⟩
  simp only [act_norm]
  refine wpAnyE_take 1 (v := .agg #[.int .i64 tick, .int .i64 load, .int .i64 want, .int .i64 repl, .int .i64 why]) rfl (by kernel_rfl) (by kernel_rfl) (by kernel_rfl) (fun _ _ _ h => h) hst (EffB.run rfl rfl (fun wd hS => ?_)) (.inl (by kernel_rfl)) ?_
  · exact wp_load_row 24 _ rfl (w3.heap.size) rfl 24 #[.int .i64 tick, .int .i64 load, .int .i64 want, .int .i64 repl, .int .i64 why] (0, 0) _ (hS.1.heap 2 rfl) Try.underlying24 rfl (by kernel_rfl) ⟨rfl, Below.refl _ _⟩
  simp only [act_norm]
  refine wpAnyE_take 2 (v := .bool false) rfl (by kernel_rfl) (by kernel_rfl) (by kernel_rfl) (fun _ _ _ h => h) hst (EffB.run rfl rfl (fun wd hS => ?_)) (.inl (by kernel_rfl)) ?_
  · exact wp_neq_agg _ _ _ _ rfl _ _ rfl rfl true (by kernel_rfl) (adv_equal_yes ⟨tick, load, want, repl, why⟩ _) ⟨rfl, Below.refl _ _⟩
  simp only [act_norm]
  refine wpAnyE_take 3 rfl (by kernel_rfl) (by kernel_rfl) (by kernel_rfl) (fun _ _ _ h => h) hst (EffB.pure rfl (fun _ => rfl)) (.inr (EffB.pure rfl (fun _ => rfl))) ?_
  simp only [act_norm]
  refine wpAnyE_take 4 rfl (by kernel_rfl) (by kernel_rfl) (by kernel_rfl) (fun _ _ _ h => h) hst (EffB.pure rfl (fun _ => rfl)) (.inr (EffB.pure rfl (fun _ => rfl))) ?_
  simp only [act_norm]
  refine wpAnyE_take 5 rfl (by kernel_rfl) (by kernel_rfl) (by kernel_rfl) (fun _ _ _ h => h) hst (EffB.pure rfl (fun _ => rfl)) (.inr (EffB.pure rfl (fun _ => rfl))) ?_
  simp only [act_norm]
  refine wpAnyE_take 6 (v := .bool false) rfl (by kernel_rfl) (by kernel_rfl) (by kernel_rfl) (fun _ _ _ h => h) hst (EffB.run rfl rfl (fun wd hS => ?_)) (.inr (EffB.run rfl rfl (fun wd hS => ?_))) ?_
  · (go_wp2; exact ⟨rfl, Below.refl _ _⟩)
  · (go_wp2; exact ⟨rfl, Below.refl _ _⟩)
  simp only [act_norm]
  refine wpAnyE_take 7 (v := .bool false) rfl (by kernel_rfl) (by kernel_rfl) (by kernel_rfl) (fun _ _ _ h => h) hst (EffB.run rfl rfl (fun wd hS => ?_)) (.inr (EffB.run rfl rfl (fun wd hS => ?_))) ?_
  · (go_wp2; exact ⟨rfl, Below.refl _ _⟩)
  · (go_wp2; exact ⟨rfl, Below.refl _ _⟩)
  simp only [act_norm]
  refine wpAnyE_take 8 rfl (by kernel_rfl) (by kernel_rfl) (by kernel_rfl) (fun _ _ _ h => h) hst (EffB.pure rfl (fun _ => rfl)) (.inr (EffB.pure rfl (fun _ => rfl))) ?_
  simp only [act_norm]
  refine wpAnyE_take 9 (v := .agg #[.int .i64 p.mn, .int .i64 p.mx, .int .i64 p.tg, .int .i64 p.tl, .int .i64 p.wi, .int .i64 p.ho]) rfl (by kernel_rfl) (by kernel_rfl) (by kernel_rfl) (fun _ _ _ h => h) hst (EffB.run rfl rfl (fun wd hS => ?_)) (.inl (by kernel_rfl)) ?_
  · exact wp_load_row 44 _ rfl (w.heap.size) rfl 44 #[.int .i64 p.mn, .int .i64 p.mx, .int .i64 p.tg, .int .i64 p.tl, .int .i64 p.wi, .int .i64 p.ho] (0, 0) _ (hS.1.heap 0 rfl) Try.underlying44 rfl (by kernel_rfl) ⟨rfl, Below.refl _ _⟩
  simp only [act_norm]
  refine wpAnyE_take 10 rfl (by kernel_rfl) (by kernel_rfl) (by kernel_rfl) (fun _ _ _ h => h) hst (EffB.pure rfl (fun _ => rfl)) (.inr (EffB.pure rfl (fun _ => rfl))) ?_
  simp only [act_norm]
  refine wpAnyE_take 11 (v := .int .i64 nw) rfl (by kernel_rfl) (by kernel_rfl) (by kernel_rfl) (fun _ _ _ h => h) hst (EffB.run rfl rfl (fun wd hS => ?_)) (.inl (by kernel_rfl)) ?_
  · (go_wp2_with fail; (with_reducible refine (F3.out wd hS.2).mono ?_); rintro e w'' ⟨rfl, hb⟩; exact ⟨rfl, hb⟩)
  simp only [act_norm]
  refine wpAnyE_take 12 (v := .agg #[.int .i64 p.mn, .int .i64 p.mx, .int .i64 p.tg, .int .i64 p.tl, .int .i64 p.wi, .int .i64 p.ho]) rfl (by kernel_rfl) (by kernel_rfl) (by kernel_rfl) (fun _ _ _ h => h) hst (EffB.run rfl rfl (fun wd hS => ?_)) (.inl (by kernel_rfl)) ?_
  · exact wp_load_row 44 _ rfl (w.heap.size) rfl 44 #[.int .i64 p.mn, .int .i64 p.mx, .int .i64 p.tg, .int .i64 p.tl, .int .i64 p.wi, .int .i64 p.ho] (0, 0) _ (hS.1.heap 0 rfl) Try.underlying44 rfl (by kernel_rfl) ⟨rfl, Below.refl _ _⟩
  simp only [act_norm]
  refine wpAnyE_take 13 rfl (by kernel_rfl) (by kernel_rfl) (by kernel_rfl) (fun _ _ _ h => h) hst (EffB.pure rfl (fun _ => rfl)) (.inr (EffB.pure rfl (fun _ => rfl))) ?_
  simp only [act_norm]
  refine wpAnyE_take 14 (v := .int .i64 nw) rfl (by kernel_rfl) (by kernel_rfl) (by kernel_rfl) (fun _ _ _ h => h) hst (EffB.run rfl rfl (fun wd hS => ?_)) (.inl (by kernel_rfl)) ?_
  · (go_wp2_with fail; (with_reducible refine (F4.out wd hS.2).mono ?_); rintro e w'' ⟨rfl, hb⟩; exact ⟨rfl, hb⟩)
  simp only [act_norm]
  refine wpAnyE_take 15 (v := .bool false) rfl (by kernel_rfl) (by kernel_rfl) (by kernel_rfl) (fun _ _ _ h => h) hst (EffB.run rfl rfl (fun wd hS => ?_)) (.inr (EffB.run rfl rfl (fun wd hS => ?_))) ?_
  · (go_wp2; exact ⟨rfl, Below.refl _ _⟩)
  · (go_wp2; exact ⟨rfl, Below.refl _ _⟩)
  simp only [act_norm]
  refine wpAnyE_take 16 (v := .bool false) rfl (by kernel_rfl) (by kernel_rfl) (by kernel_rfl) (fun _ _ _ h => h) hst (EffB.run rfl rfl (fun wd hS => ?_)) (.inr (EffB.run rfl rfl (fun wd hS => ?_))) ?_
  · (go_wp2; exact ⟨rfl, Below.refl _ _⟩)
  · (go_wp2; exact ⟨rfl, Below.refl _ _⟩)
  simp only [act_norm]
  refine wpAnyE_done (by kernel_rfl) (fun wd hS => ?_) _
  have M4 := Lib.hid hS.1
  have c0 := M4.out.cell 1 3 rfl rfl
  have c1 := M4.out.cell 0 0 rfl rfl
  have c2 := M4.out.cell 0 1 rfl rfl
  clear hS hst M3
  by_cases hz : er = 0
  · obtain ⟨z1, z2⟩ := HZ.out hz
    subst hz
    have d1 : decide (p.mn ≤ repl) = true := decide_eq_true z1
    have d2 : decide (repl ≤ p.mx) = true := decide_eq_true z2
    go_wp2
    go_ret
    exact ⟨rfl, M4.out.below⟩
  · have d1 : (er == 0) = false := beq_eq_false_iff_ne.2 hz
    have d2 : (er != 0) = true := by simpa using hz
    go_wp2
    go_ret
    exact ⟨rfl, M4.out.below⟩
end Go.Proofs.Ytcinfpgpldmkaaa
