/- Layer 13: more load does not want less; walked. -/
import Derived.Test.YtdchooggindihaaLaws13
namespace Go.Proofs.Ytdchooggindihaa
open Go.ChangeShapes Go.WideShapes Go.ChangeAt Go.RowKit

theorem Sat.ceil_mono (a b c : Int) (h : a ≤ b) : Sat.ceil a c ≤ Sat.ceil b c := by
  unfold Sat.ceil
  split
  · omega
  · have := Int.ediv_le_ediv (a := -b) (b := -a) (c := c) (by omega) (by omega)
    omega
theorem Pol.want_mono (p : Pol) (a b : Int) (h : a ≤ b) : p.want a ≤ p.want b := by
  unfold Pol.want
  split
  · exact Sat.ceil_mono _ _ _ (by omega)
  · omega
theorem Sat.clamp_ge (a b : Int) (ha : I64 a) (hb : 0 ≤ b) : a ≤ Sat.clamp (a + b) := by
  unfold Sat.clamp
  unfold I64 at ha
  split
  · omega
  · split <;> omega

theorem Pol.near_middle (p : Pol) (now : Int) (h : p.ok = true) (h1 : 1 ≤ now) (h2 : now ≤ 1073741824) : p.near (now * p.tg) now = true := by
  have hf := Pol.fine h
  unfold Pol.Fine at hf
  unfold Pol.near
  rw [h, Bool.true_and]
  apply decide_eq_true
  have a1 : 0 ≤ now * p.tg := Int.mul_nonneg (by omega) (by omega)
  have a2 : 0 ≤ p.tl * now * p.tg := Int.mul_nonneg (Int.mul_nonneg (by omega) (by omega)) (by omega)
  have a3 : 1000 * now * p.tg = 1000 * (now * p.tg) := Int.mul_assoc _ _ _
  have a4 : max (now * p.tg) 0 = now * p.tg := by omega
  refine ⟨h1, h2, ?_, ?_⟩ <;> rw [a4, a3] <;> omega
theorem Pol.near_exact (p q : Pol) (load now : Int) (h : p.ok = true) (hq : q = ⟨p.mn, p.mx, p.tg, 0, p.wi, p.ho⟩) (hl : 0 ≤ load) (h1 : 1 ≤ now) (h2 : now ≤ 1073741824) : q.near load now = decide (load = now * p.tg) := by
  have hf := Pol.fine h
  unfold Pol.Fine at hf
  have hqo : q.ok = true := by
    apply Pol.ok_of
    subst hq
    unfold Pol.Fine
    simp only
    omega
  unfold Pol.near
  rw [hqo, Bool.true_and]
  apply decide_eq_decide.2
  subst hq
  unfold Pol.Close
  simp only [Int.zero_mul, Int.add_zero]
  have a3 : 1000 * now * p.tg = 1000 * (now * p.tg) := Int.mul_assoc _ _ _
  have a4 : max load 0 = load := by omega
  rw [a3, a4]
  constructor
  · intro ⟨_, _, x, y⟩; omega
  · intro x; refine ⟨h1, h2, ?_, ?_⟩ <;> omega

set_option maxHeartbeats 1000000 in
set_option maxRecDepth 100000 in
theorem controlMore_walk (p : Pol) (hp : p.In) (load more now : Int) (hl : I64 load) (hm : I64 more) (w : World) :
    Calls Try.prog 8 #[.agg #[.int .i64 p.mn, .int .i64 p.mx, .int .i64 p.tg, .int .i64 p.tl, .int .i64 p.wi, .int .i64 p.ho], .int .i64 load, .int .i64 more, .int .i64 now] w fun e w' => e = .returned (.bool true) ∧ Below w.heap.size w w' := by
  have r1 := ref_polRight p
  by_cases h0 : load < 0
  · go_enter Try.func8, Try.ntmps8
    go_wp2_with fail
    (with_reducible refine (awake13 _).mono ?_)
    rintro e w1 ⟨rfl, hb1⟩
    have K0 := Lib.hid ((below1 w (.cells #[.int .i64 p.mn, .int .i64 p.mx, .int .i64 p.tg, .int .i64 p.tl, .int .i64 p.wi, .int .i64 p.ho] 42)).trans (hb1.mono (by simp)))
    clear hb1
    go_wp2
    go_ret
    exact ⟨rfl, K0.out⟩
  by_cases h1 : more < 0
  · go_enter Try.func8, Try.ntmps8
    go_wp2_with fail
    (with_reducible refine (awake13 _).mono ?_)
    rintro e w1 ⟨rfl, hb1⟩
    have K0 := Lib.hid ((below1 w (.cells #[.int .i64 p.mn, .int .i64 p.mx, .int .i64 p.tg, .int .i64 p.tl, .int .i64 p.wi, .int .i64 p.ho] 42)).trans (hb1.mono (by simp)))
    clear hb1
    go_wp2
    go_ret
    exact ⟨rfl, K0.out⟩
  have d0 : decide (load < 0) = false := decide_eq_false h0
  have d1 : decide (more < 0) = false := decide_eq_false h1
  cases hok : p.ok
  · rw [hok] at r1
    have R1 := Lib.hid r1
    clear r1 hok
    go_enter Try.func8, Try.ntmps8
    go_wp2_with fail
    (with_reducible refine (awake13 _).mono ?_)
    rintro e w1 ⟨rfl, hb1⟩
    have K0 := Lib.hid ((below1 w (.cells #[.int .i64 p.mn, .int .i64 p.mx, .int .i64 p.tg, .int .i64 p.tl, .int .i64 p.wi, .int .i64 p.ho] 42)).trans (hb1.mono (by simp)))
    have K1 : Hid (w1.heap[w.heap.size]? = some (.cells #[.int .i64 p.mn, .int .i64 p.mx, .int .i64 p.tg, .int .i64 p.tl, .int .i64 p.wi, .int .i64 p.ho] 42 (0, 0))) := by show _ = _; rw [hb1.block _ (by simp)]; exact (by simp only [heap_alloc_past, heap_alloc_at, World.size_alloc, Nat.add_assoc, Nat.reduceAdd, Nat.lt_add_right_iff_pos, Nat.add_lt_add_iff_left, Nat.reduceLT, Nat.zero_lt_succ, Nat.lt_add_one])
    clear hb1
    go_wp2_with ((with_reducible refine wpList_load_rowG ?_ 42 _ rfl (w.heap.size) ?_ 42 #[.int .i64 p.mn, .int .i64 p.mx, .int .i64 p.tg, .int .i64 p.tl, .int .i64 p.wi, .int .i64 p.ho] (0, 0) _ 6 ?_ Try.underlying42 rfl (by kernel_rfl) ?_ ?_); kernel_rfl; exact rfl; exact K1.out; exact rfl)
    (with_reducible refine (R1.out _).mono ?_)
    rintro e w2 ⟨rfl, hb2⟩
    have K2 := Lib.hid (K0.out.trans (hb2.mono K0.out.size))
    clear hb2
    go_wp2
    go_ret
    exact ⟨rfl, K2.out⟩
  rw [hok] at r1
  have r2 := ref_add load more hl hm
  have hmo := Pol.want_mono p load (Sat.clamp (load + more)) (Sat.clamp_ge load more hl (by omega))
  have r3 := control_want p load hl
  have r4 := control_want p (Sat.clamp (load + more)) (Sat.clamp_I64 _)
  obtain ⟨s, es⟩ : ∃ s, s = Sat.clamp (load + more) := ⟨_, rfl⟩
  rw [← es] at r2 hmo r4
  obtain ⟨a, ea⟩ : ∃ s, s = p.want load := ⟨_, rfl⟩
  obtain ⟨b, eb⟩ : ∃ b, b = p.want s := ⟨_, rfl⟩
  rw [← ea] at r3 hmo
  rw [← eb] at r4 hmo
  clear es ea eb
  have d2 : decide (b < a) = false := decide_eq_false (by omega)
  have R1 := Lib.hid r1
  have R2 := Lib.hid r2
  clear r1 r2
  have hf := Pol.fine hok
  unfold Pol.Fine at hf
  have HF := Lib.hid hf
  have HOK := Lib.hid hok
  clear hf hok
  go_enter Try.func8, Try.ntmps8
  go_wp2_with fail
  (with_reducible refine (awake13 _).mono ?_)
  rintro e w1 ⟨rfl, hb1⟩
  have K0 := Lib.hid ((below1 w (.cells #[.int .i64 p.mn, .int .i64 p.mx, .int .i64 p.tg, .int .i64 p.tl, .int .i64 p.wi, .int .i64 p.ho] 42)).trans (hb1.mono (by simp)))
  have K1 : Hid (w1.heap[w.heap.size]? = some (.cells #[.int .i64 p.mn, .int .i64 p.mx, .int .i64 p.tg, .int .i64 p.tl, .int .i64 p.wi, .int .i64 p.ho] 42 (0, 0))) := by show _ = _; rw [hb1.block _ (by simp)]; exact (by simp only [heap_alloc_past, heap_alloc_at, World.size_alloc, Nat.add_assoc, Nat.reduceAdd, Nat.lt_add_right_iff_pos, Nat.add_lt_add_iff_left, Nat.reduceLT, Nat.zero_lt_succ, Nat.lt_add_one])
  clear hb1
  go_wp2_with ((with_reducible refine wpList_load_rowG ?_ 42 _ rfl (w.heap.size) ?_ 42 #[.int .i64 p.mn, .int .i64 p.mx, .int .i64 p.tg, .int .i64 p.tl, .int .i64 p.wi, .int .i64 p.ho] (0, 0) _ 6 ?_ Try.underlying42 rfl (by kernel_rfl) ?_ ?_); kernel_rfl; exact rfl; exact K1.out; exact rfl)
  (with_reducible refine (R1.out _).mono ?_)
  rintro e w2 ⟨rfl, hb2⟩
  have k0 := (K0.out.trans (hb2.mono K0.out.size))
  have k1 := (hb2.block _ (lt_of_heap K1.out)).trans K1.out
  clear hb2 K0 K1
  have K0 := Lib.hid k0
  have K1 := Lib.hid k1
  clear k0 k1
  go_wp2_with ((with_reducible refine (R2.out _).mono ?_); rintro e w3 ⟨rfl, rfl⟩)
  have hst : Stab (fun w' => Below w.heap.size w w' ∧ w'.heap[w.heap.size]? = some (.cells #[.int .i64 p.mn, .int .i64 p.mx, .int .i64 p.tg, .int .i64 p.tl, .int .i64 p.wi, .int .i64 p.ho] 42 (0, 0))) :=
    stab_and (stab_below (Nat.le_refl _)) (stab_heap _ _)
  refine wp_region_E mixed [] hst ⟨below_drew K0.out, K1.out⟩ ?_
  refine wpAnyE_take 0 (v := .agg #[.int .i64 p.mn, .int .i64 p.mx, .int .i64 p.tg, .int .i64 p.tl, .int .i64 p.wi, .int .i64 p.ho]) rfl (by kernel_rfl) (by kernel_rfl) (by kernel_rfl) (fun _ _ _ h => h) hst (EffB.run rfl rfl (fun wd hS => ?_)) (.inl (by kernel_rfl)) ?_
  · exact wp_load_row 42 _ rfl w.heap.size rfl 42 #[.int .i64 p.mn, .int .i64 p.mx, .int .i64 p.tg, .int .i64 p.tl, .int .i64 p.wi, .int .i64 p.ho] (0, 0) _ hS.2 Try.underlying42 rfl (polRow p) ⟨rfl, Below.refl _ _⟩
  simp only [act_norm]
  refine wpAnyE_take 1 rfl (by kernel_rfl) (by kernel_rfl) (by kernel_rfl) (fun _ _ _ h => h) hst (EffB.pure rfl (fun _ => rfl)) (.inr (EffB.pure rfl (fun _ => rfl))) ?_
  simp only [act_norm]
  refine wpAnyE_take 2 (v := .int .i64 b) rfl (by kernel_rfl) (by kernel_rfl) (by kernel_rfl) (fun _ _ _ h => h) hst (EffB.run rfl rfl (fun wd hS => ?_)) (.inl (by kernel_rfl)) ?_
  · (go_wp2_with fail; (with_reducible refine (r4 wd).mono ?_); rintro e w'' ⟨rfl, hb⟩; exact ⟨rfl, hb⟩)
  simp only [act_norm]
  refine wpAnyE_take 3 (v := .agg #[.int .i64 p.mn, .int .i64 p.mx, .int .i64 p.tg, .int .i64 p.tl, .int .i64 p.wi, .int .i64 p.ho]) rfl (by kernel_rfl) (by kernel_rfl) (by kernel_rfl) (fun _ _ _ h => h) hst (EffB.run rfl rfl (fun wd hS => ?_)) (.inl (by kernel_rfl)) ?_
  · exact wp_load_row 42 _ rfl w.heap.size rfl 42 #[.int .i64 p.mn, .int .i64 p.mx, .int .i64 p.tg, .int .i64 p.tl, .int .i64 p.wi, .int .i64 p.ho] (0, 0) _ hS.2 Try.underlying42 rfl (polRow p) ⟨rfl, Below.refl _ _⟩
  simp only [act_norm]
  refine wpAnyE_take 4 rfl (by kernel_rfl) (by kernel_rfl) (by kernel_rfl) (fun _ _ _ h => h) hst (EffB.pure rfl (fun _ => rfl)) (.inr (EffB.pure rfl (fun _ => rfl))) ?_
  simp only [act_norm]
  refine wpAnyE_take 5 (v := .int .i64 a) rfl (by kernel_rfl) (by kernel_rfl) (by kernel_rfl) (fun _ _ _ h => h) hst (EffB.run rfl rfl (fun wd hS => ?_)) (.inl (by kernel_rfl)) ?_
  · (go_wp2_with fail; (with_reducible refine (r3 wd).mono ?_); rintro e w'' ⟨rfl, hb⟩; exact ⟨rfl, hb⟩)
  simp only [act_norm]
  refine wpAnyE_take 6 (v := .bool false) rfl (by kernel_rfl) (by kernel_rfl) (by kernel_rfl) (fun _ _ _ h => h) hst (EffB.run rfl rfl (fun wd hS => ?_)) (.inr (EffB.run rfl rfl (fun wd hS => ?_))) ?_
  · (go_wp2; exact ⟨rfl, Below.refl _ _⟩)
  · (go_wp2; exact ⟨rfl, Below.refl _ _⟩)
  simp only [act_norm]
  refine wpAnyE_done (by kernel_rfl) (fun wd hS => ?_) _
  have HS := Lib.hid hS
  have c2 : wd.cell? ⟨w.heap.size, 2, none⟩ = some (.int .i64 p.tg) := by rw [cell_of_row _ _ _ _ _ _ hS.2]; rfl
  clear hS hst r3 r4 hmo
  by_cases n1 : now < 1
  · go_wp2
    go_ret
    exact ⟨rfl, HS.out.1⟩
  by_cases n2 : 1073741824 < now
  · go_wp2
    go_ret
    exact ⟨rfl, HS.out.1⟩
  by_cases n3 : 8589934591 < p.tg
  · go_wp2
    go_ret
    exact ⟨rfl, HS.out.1⟩
  have r5 := Pol.near_middle p now HOK.out (by omega) (by omega)
  have r6 := Pol.near_exact p ⟨p.mn, p.mx, p.tg, 0, p.wi, p.ho⟩ load now HOK.out rfl (by omega) (by omega) (by omega)
  have hb0 : 0 ≤ now * p.tg := Int.mul_nonneg (by omega) (by have := HF.out; omega)
  have hb1 : now * p.tg ≤ 1073741824 * 8589934591 := by
    have t1 : now * p.tg ≤ 1073741824 * p.tg := Int.mul_le_mul_of_nonneg_right (by omega) (by have := HF.out; omega)
    omega
  obtain ⟨m, em⟩ : ∃ m, m = now * p.tg := ⟨_, rfl⟩
  rw [← em] at r5 r6 hb0 hb1
  have r7 := control_near p hp m now (by unfold I64; omega)
  rw [r5] at r7
  have r8 := control_near ⟨p.mn, p.mx, p.tg, 0, p.wi, p.ho⟩ (by unfold Pol.In I64 at *; simp only at *; omega) load now hl
  rw [r6] at r8
  have R7 := Lib.hid r7
  have R8 := Lib.hid r8
  have em' := em.symm
  clear r5 r6 r7 r8 em
  go_wp2_with ((with_reducible refine wpList_load_rowAs rfl 42 _ rfl (w.heap.size) ?_ 42 #[.int .i64 p.mn, .int .i64 p.mx, .int .i64 p.tg, .int .i64 p.tl, .int .i64 p.wi, .int .i64 p.ho] (0, 0) _ 6 ?_ Try.underlying42 rfl (by kernel_rfl) ?_ ?_); exact rfl; exact HS.out.2; exact rfl)
  (with_reducible refine (R7.out _).mono ?_)
  rintro e w4 ⟨rfl, hb4⟩
  have k0 := HS.out.1.trans (hb4.mono HS.out.1.size)
  have k1 := (hb4.block _ (lt_of_heap HS.out.2)).trans HS.out.2
  clear hb4 HS c2 em'
  have K2 := Lib.hid k0
  have K3 := Lib.hid k1
  clear k0 k1 K0 K1
  go_wp2_with ((with_reducible refine wpList_load_rowAs rfl 42 _ rfl (w.heap.size) ?_ 42 #[.int .i64 p.mn, .int .i64 p.mx, .int .i64 p.tg, .int .i64 p.tl, .int .i64 p.wi, .int .i64 p.ho] (0, 0) _ 6 ?_ Try.underlying42 rfl (by kernel_rfl) ?_ ?_); exact rfl; exact K3.out; exact rfl)
  (with_reducible refine (R8.out _).mono ?_)
  rintro e w5 ⟨rfl, hb5⟩
  have K4 := Lib.hid ((K2.out.alloc K2.out.size _).trans (hb5.mono (K2.out.alloc K2.out.size _).size))
  clear hb5 K2 K3
  by_cases hlm : load = m
  · subst hlm
    go_wp2
    go_ret
    exact ⟨ret_bool (by simp), K4.out⟩
  · have d3 : decide (load = m) = false := decide_eq_false hlm
    have d4 : (load == m) = false := beq_eq_false_iff_ne.2 hlm
    go_wp2
    go_ret
    exact ⟨ret_bool (by simp), K4.out⟩
end Go.Proofs.Ytdchooggindihaa
