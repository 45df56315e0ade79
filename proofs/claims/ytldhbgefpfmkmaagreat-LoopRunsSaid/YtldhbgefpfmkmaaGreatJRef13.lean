/- Contracts of layer 13's reference. -/
import Derived.Test.YtldhbgefpfmkmaaGreatJControl2
namespace Go.Proofs.YtldhbgefpfmkmaaGreat
open Go.ChangeShapes Go.WideShapes Go.ChangeAt Go.RowKit

theorem ref13_load (n : Int) (w : World) : Calls Tryz.prog 90 #[.int .i64 n] w fun e w' => e = .returned (.int .i64 (max n 0)) ∧ w = w' := by
  by_cases h : n < 0
  · have HE : Hid (max n 0 = 0) := by show max n 0 = 0; omega
    go_enter Tryz.func90, Tryz.ntmps90
    go_wp2
    go_ret
    exact ⟨ret_int HE.out.symm, rfl⟩
  · have HE : Hid (max n 0 = n) := by show max n 0 = n; omega
    go_enter Tryz.func90, Tryz.ntmps90
    go_wp2
    go_ret
    exact ⟨ret_int HE.out.symm, rfl⟩

set_option maxRecDepth 100000 in
theorem ref13_bound (p : Pol) (n : Int) (w : World) : Calls Tryz.prog 42 #[.agg #[.int .i64 p.mn, .int .i64 p.mx, .int .i64 p.tg, .int .i64 p.tl, .int .i64 p.wi, .int .i64 p.ho], .int .i64 n] w fun e w' => e = .returned (.int .i64 (p.bound n)) ∧ Below w.heap.size w w' := by
  have hr := ref_polRight p
  by_cases h : p.ok = true
  · have hs := ref_clamp n p.mn p.mx
    have HE : Hid (p.bound n = Sat.clampTo n p.mn p.mx) := by show p.bound n = _; unfold Pol.bound; rw [if_pos h]
    rw [h] at hr
    have HR := Lib.hid hr
    have HS := Lib.hid hs
    clear hr hs h
    go_enter Tryz.func42, Tryz.ntmps42
    go_wp2_with fail
    (with_reducible refine (HR.out _).mono ?_)
    rintro e w1 ⟨rfl, hb1⟩
    have HB := Lib.hid ((below1 w _).trans (hb1.mono (by simp)))
    have k1 : w1.heap[w.heap.size]? = some (.cells #[.int .i64 p.mn, .int .i64 p.mx, .int .i64 p.tg, .int .i64 p.tl, .int .i64 p.wi, .int .i64 p.ho] 23 (0, 0)) := by rw [hb1.block _ (by simp)]; exact (by first | (with_reducible exact heap_1_0 _ _) | (with_reducible exact heap_2_0 _ _ _) | (with_reducible exact heap_2_1 _ _ _) | (with_reducible exact heap_3_0 _ _ _ _) | (with_reducible exact heap_3_1 _ _ _ _) | (with_reducible exact heap_3_2 _ _ _ _) | (with_reducible exact heap_4_0 _ _ _ _ _) | (with_reducible exact heap_4_1 _ _ _ _ _) | (with_reducible exact heap_4_2 _ _ _ _ _) | (with_reducible exact heap_4_3 _ _ _ _ _) | (with_reducible exact heap_5_0 _ _ _ _ _ _) | (with_reducible exact heap_5_1 _ _ _ _ _ _) | (with_reducible exact heap_5_2 _ _ _ _ _ _) | (with_reducible exact heap_5_3 _ _ _ _ _ _) | (with_reducible exact heap_5_4 _ _ _ _ _ _) | (with_reducible exact heap_6_0 _ _ _ _ _ _ _) | (with_reducible exact heap_6_1 _ _ _ _ _ _ _) | (with_reducible exact heap_6_2 _ _ _ _ _ _ _) | (with_reducible exact heap_6_3 _ _ _ _ _ _ _) | (with_reducible exact heap_6_4 _ _ _ _ _ _ _) | (with_reducible exact heap_6_5 _ _ _ _ _ _ _) | simp only [heap_alloc_past, heap_alloc_at, World.size_alloc, Nat.add_assoc, Nat.reduceAdd, Nat.lt_add_right_iff_pos, Nat.add_lt_add_iff_left, Nat.reduceLT, Nat.zero_lt_succ, Nat.lt_add_one])
    have c0 : w1.cell? ⟨w.heap.size, 0, none⟩ = some (.int .i64 p.mn) := by rw [cell_of_row _ _ _ _ _ _ k1]; rfl
    have c1 : w1.cell? ⟨w.heap.size, 1, none⟩ = some (.int .i64 p.mx) := by rw [cell_of_row _ _ _ _ _ _ k1]; rfl
    clear hb1 k1
    go_wp2_with fail
    (with_reducible refine (HS.out _).mono ?_)
    rintro e w2 ⟨rfl, rfl⟩
    go_wp2
    go_ret
    exact ⟨ret_int HE.out.symm, HB.out⟩
  · have HE : Hid (p.bound n = 0) := by show p.bound n = _; unfold Pol.bound; rw [if_neg h]
    rw [show p.ok = false by simpa using h] at hr
    have HR := Lib.hid hr
    clear hr h
    go_enter Tryz.func42, Tryz.ntmps42
    go_wp2_with fail
    (with_reducible refine (HR.out _).mono ?_)
    rintro e w1 ⟨rfl, hb1⟩
    have HB := Lib.hid ((below1 w _).trans (hb1.mono (by simp)))
    clear hb1
    go_wp2
    go_ret
    exact ⟨ret_int HE.out.symm, HB.out⟩

set_option maxRecDepth 100000 in
theorem ref13_want (p : Pol) (load : Int) (hl : I64 load) (w : World) : Calls Tryz.prog 70 #[.agg #[.int .i64 p.mn, .int .i64 p.mx, .int .i64 p.tg, .int .i64 p.tl, .int .i64 p.wi, .int .i64 p.ho], .int .i64 load] w fun e w' => e = .returned (.int .i64 (p.want load)) ∧ Below w.heap.size w w' := by
  have hr := ref_polRight p
  by_cases h : p.ok = true
  · have hs := ref_ceil (max load 0) p.tg (by unfold I64 at *; omega)
    have hd := ref13_load load
    have HE : Hid (p.want load = Sat.ceil (max load 0) p.tg) := by show p.want load = _; unfold Pol.want; rw [if_pos h]
    rw [h] at hr
    obtain ⟨m, em⟩ : ∃ m, m = max load 0 := ⟨_, rfl⟩
    rw [← em] at hs hd HE
    obtain ⟨r, er⟩ : ∃ r, r = Sat.ceil m p.tg := ⟨_, rfl⟩
    rw [← er] at hs HE
    have HR := Lib.hid hr
    clear hr h em er
    go_enter Tryz.func70, Tryz.ntmps70
    go_wp2_with fail
    (with_reducible refine (HR.out _).mono ?_)
    rintro e w1 ⟨rfl, hb1⟩
    have k0 := (below1 w (.cells #[.int .i64 p.mn, .int .i64 p.mx, .int .i64 p.tg, .int .i64 p.tl, .int .i64 p.wi, .int .i64 p.ho] 23)).trans (hb1.mono (by simp))
    have k1 : w1.heap[w.heap.size]? = some (.cells #[.int .i64 p.mn, .int .i64 p.mx, .int .i64 p.tg, .int .i64 p.tl, .int .i64 p.wi, .int .i64 p.ho] 23 (0, 0)) := by rw [hb1.block _ (by simp)]; exact (by first | (with_reducible exact heap_1_0 _ _) | (with_reducible exact heap_2_0 _ _ _) | (with_reducible exact heap_2_1 _ _ _) | (with_reducible exact heap_3_0 _ _ _ _) | (with_reducible exact heap_3_1 _ _ _ _) | (with_reducible exact heap_3_2 _ _ _ _) | (with_reducible exact heap_4_0 _ _ _ _ _) | (with_reducible exact heap_4_1 _ _ _ _ _) | (with_reducible exact heap_4_2 _ _ _ _ _) | (with_reducible exact heap_4_3 _ _ _ _ _) | (with_reducible exact heap_5_0 _ _ _ _ _ _) | (with_reducible exact heap_5_1 _ _ _ _ _ _) | (with_reducible exact heap_5_2 _ _ _ _ _ _) | (with_reducible exact heap_5_3 _ _ _ _ _ _) | (with_reducible exact heap_5_4 _ _ _ _ _ _) | (with_reducible exact heap_6_0 _ _ _ _ _ _ _) | (with_reducible exact heap_6_1 _ _ _ _ _ _ _) | (with_reducible exact heap_6_2 _ _ _ _ _ _ _) | (with_reducible exact heap_6_3 _ _ _ _ _ _ _) | (with_reducible exact heap_6_4 _ _ _ _ _ _ _) | (with_reducible exact heap_6_5 _ _ _ _ _ _ _) | simp only [heap_alloc_past, heap_alloc_at, World.size_alloc, Nat.add_assoc, Nat.reduceAdd, Nat.lt_add_right_iff_pos, Nat.add_lt_add_iff_left, Nat.reduceLT, Nat.zero_lt_succ, Nat.lt_add_one])
    clear hb1
    have hst : Stab (fun w' => Below w.heap.size w w' ∧ w'.heap[w.heap.size]? = some (.cells #[.int .i64 p.mn, .int .i64 p.mx, .int .i64 p.tg, .int .i64 p.tl, .int .i64 p.wi, .int .i64 p.ho] 23 (0, 0))) :=
      stab_and (stab_below (Nat.le_refl _)) (stab_heap _ _)
    have K0 := Lib.hid k0
    have K1 := Lib.hid k1
    clear k0 k1
    go_wp2_with fail
    refine wp_region_E mixed [5] hst ⟨below_drew K0.out, K1.out⟩ ?_
    refine wpAnyE_take 0 rfl (by kernel_rfl) (by kernel_rfl) (by kernel_rfl) (fun _ _ _ h => h) hst (EffB.pure rfl (fun _ => rfl)) (.inr (EffB.pure rfl (fun _ => rfl))) ?_
    simp only [act_norm]
    refine wpAnyE_take 1 (v := .int .i64 m) rfl (by kernel_rfl) (by kernel_rfl) (by kernel_rfl) (fun _ _ _ h => h) hst (EffB.run rfl rfl (fun wd hS => ?_)) (.inl (by kernel_rfl)) ?_
    · (go_wp2_with fail; (with_reducible refine (hd wd).mono ?_); rintro e w'' ⟨rfl, rfl⟩; exact ⟨rfl, Below.refl _ _⟩)
    simp only [act_norm]
    refine wpAnyE_take 2 (v := .pointer (some ⟨w.heap.size, 2, none⟩)) rfl (by kernel_rfl) (by kernel_rfl) (by kernel_rfl) (fun _ _ _ h => h) hst (EffB.run rfl rfl (fun wd hS => ?_)) (.inr (EffB.run rfl rfl (fun wd hS => ?_))) ?_
    · (go_wp2; exact ⟨rfl, Below.refl _ _⟩)
    · (go_wp2; exact ⟨rfl, Below.refl _ _⟩)
    simp only [act_norm]
    refine wpAnyE_take 3 (v := .int .i64 p.tg) rfl (by kernel_rfl) (by kernel_rfl) (by kernel_rfl) (fun _ _ _ h => h) hst (EffB.run rfl rfl (fun wd hS => ?_)) (.inl (by kernel_rfl)) ?_
    · (have c2 : wd.cell? ⟨w.heap.size, 2, none⟩ = some (.int .i64 p.tg) := by rw [cell_of_row _ _ _ _ _ _ hS.2]; rfl); go_wp2; exact ⟨rfl, Below.refl _ _⟩
    simp only [act_norm]
    refine wpAnyE_take 4 (v := .int .i64 r) rfl (by kernel_rfl) (by kernel_rfl) (by kernel_rfl) (fun _ _ _ h => h) hst (EffB.run rfl rfl (fun wd hS => ?_)) (.inl (by kernel_rfl)) ?_
    · (go_wp2_with fail; (with_reducible refine (hs wd).mono ?_); rintro e w'' ⟨rfl, rfl⟩; exact ⟨rfl, Below.refl _ _⟩)
    simp only [act_norm]
    refine wpAnyE_take 5 (v := .int .i64 r) rfl (by kernel_rfl) (by kernel_rfl) (by kernel_rfl) (fun _ _ _ h => h) hst (EffB.run rfl rfl (fun wd hS => ?_)) (.inr (EffB.run rfl rfl (fun wd hS => ?_))) ?_
    · (go_wp2; exact ⟨rfl, Below.refl _ _⟩)
    · (go_wp2; exact ⟨rfl, Below.refl _ _⟩)
    simp only [act_norm]
    refine wpAnyE_done (by kernel_rfl) (fun wd hS => ?_) _
    go_wp2
    go_ret
    exact ⟨ret_int HE.out.symm, hS.1⟩
  · have HE : Hid (p.want load = 0) := by show p.want load = _; unfold Pol.want; rw [if_neg h]
    rw [show p.ok = false by simpa using h] at hr
    have HR := Lib.hid hr
    clear hr h
    go_enter Tryz.func70, Tryz.ntmps70
    go_wp2_with fail
    (with_reducible refine (HR.out _).mono ?_)
    rintro e w1 ⟨rfl, hb1⟩
    have HB := Lib.hid ((below1 w _).trans (hb1.mono (by simp)))
    clear hb1
    go_wp2
    go_ret
    exact ⟨ret_int HE.out.symm, HB.out⟩

theorem Bits.cmp_le (a b : Nat) : decide (Bits.cmp a b ≤ 0) = decide (a ≤ b) := by
  unfold Bits.cmp
  by_cases h1 : a < b
  · rw [if_pos h1]; simp; omega
  · by_cases h2 : b < a
    · rw [if_neg h1, if_pos h2]; simp; omega
    · rw [if_neg h1, if_neg h2]; simp; omega

/-- What the reference's Near has in memory. -/
structure NearMem (w wr : World) (cs : Array Value) (A B C D a b c d : Nat) : Prop where
  below : Below w.heap.size w wr
  pol : wr.heap[w.heap.size]? = some (.cells cs 23 (0, 0))
  l0 : w.heap.size < A
  l1 : A < B
  l2 : B < C
  l3 : C < D
  ha : wr.heap[A]? = some (.cells (Bits.num a) 130 (0, 0))
  hb : wr.heap[B]? = some (.cells (Bits.num b) 130 (0, 0))
  hc : wr.heap[C]? = some (.cells (Bits.num c) 130 (0, 0))
  hd : wr.heap[D]? = some (.cells (Bits.num d) 130 (0, 0))

theorem NearMem.call {w wr w' : World} {cs : Array Value} {A B C D a b c d : Nat} (h : NearMem w wr cs A B C D a b c d) (hb : Below wr.heap.size wr w') : NearMem w w' cs A B C D a b c d := by
  obtain ⟨h1, h2, h3, h4, h5, h6, h7, h8, h9, h10⟩ := h
  exact ⟨h1.trans (hb.mono h1.size), (hb.block _ (lt_of_heap h2)).trans h2, h3, h4, h5, h6, (hb.block _ (lt_of_heap h7)).trans h7, (hb.block _ (lt_of_heap h8)).trans h8, (hb.block _ (lt_of_heap h9)).trans h9, (hb.block _ (lt_of_heap h10)).trans h10⟩
theorem NearMem.setC {w wr : World} {cs : Array Value} {A B C D a b c d : Nat} (h : NearMem w wr cs A B C D a b c d) (y : Nat) : NearMem w (wr.setRow C (Bits.num y)) cs A B C D a b y d := by
  obtain ⟨h1, h2, h3, h4, h5, h6, h7, h8, h9, h10⟩ := h
  exact ⟨below_setRow h1 (by omega) _, (setRow_other _ _ _ _ (by omega)).trans h2, h3, h4, h5, h6, (setRow_other _ _ _ _ (by omega)).trans h7, (setRow_other _ _ _ _ (by omega)).trans h8, setRow_heap _ _ _ _ _ _ h9, (setRow_other _ _ _ _ (by omega)).trans h10⟩
theorem NearMem.setD {w wr : World} {cs : Array Value} {A B C D a b c d : Nat} (h : NearMem w wr cs A B C D a b c d) (y : Nat) : NearMem w (wr.setRow D (Bits.num y)) cs A B C D a b c y := by
  obtain ⟨h1, h2, h3, h4, h5, h6, h7, h8, h9, h10⟩ := h
  exact ⟨below_setRow h1 (by omega) _, (setRow_other _ _ _ _ (by omega)).trans h2, h3, h4, h5, h6, (setRow_other _ _ _ _ (by omega)).trans h7, (setRow_other _ _ _ _ (by omega)).trans h8, (setRow_other _ _ _ _ (by omega)).trans h9, setRow_heap _ _ _ _ _ _ h10⟩
theorem NearMem.alloc {w wr : World} {cs : Array Value} {A B C D a b c d : Nat} (h : NearMem w wr cs A B C D a b c d) (o : Obj) : NearMem w (wr.alloc o) cs A B C D a b c d := h.call (below1 _ _)
theorem NearMem.dlt {w wr : World} {cs : Array Value} {A B C D a b c d : Nat} (h : NearMem w wr cs A B C D a b c d) : D < wr.heap.size := lt_of_heap h.hd

set_option maxRecDepth 100000 in
theorem ref13_near_out (p : Pol) (load now : Int) (w : World) (h : p.ok = false ∨ now < 1 ∨ 1073741824 < now) :
    Calls Tryz.prog 69 #[.agg #[.int .i64 p.mn, .int .i64 p.mx, .int .i64 p.tg, .int .i64 p.tl, .int .i64 p.wi, .int .i64 p.ho], .int .i64 load, .int .i64 now] w fun e w' => e = .returned (.bool false) ∧ Below w.heap.size w w' := by
  have hr := ref_polRight p
  cases ho : p.ok with
  | false =>
    rw [ho] at hr
    have HR := Lib.hid hr
    clear hr h ho
    go_enter Tryz.func69, Tryz.ntmps69
    go_wp2_with fail
    (with_reducible refine (HR.out _).mono ?_)
    rintro e w1 ⟨rfl, hb1⟩
    have HB := Lib.hid ((below1 w _).trans (hb1.mono (by simp)))
    clear hb1
    go_wp2
    go_ret
    exact ⟨rfl, HB.out⟩
  | true =>
    rw [ho] at hr
    have h' : now < 1 ∨ 1073741824 < now := by rcases h with h | h; (rw [ho] at h; cases h); exact h
    have HR := Lib.hid hr
    clear hr h ho
    go_enter Tryz.func69, Tryz.ntmps69
    go_wp2_with fail
    (with_reducible refine (HR.out _).mono ?_)
    rintro e w1 ⟨rfl, hb1⟩
    have HB := Lib.hid ((below1 w _).trans (hb1.mono (by simp)))
    clear hb1
    by_cases h1 : now < 1
    · clear h'
      go_wp2
      go_ret
      exact ⟨rfl, HB.out⟩
    · have h2 : 1073741824 < now := by omega
      clear h'
      go_wp2
      go_ret
      exact ⟨rfl, HB.out⟩

theorem Bits.sum_of {a b : Nat} (h : a + b < 340282366920938463463374607431768211456) : Bits.sum a b = a + b := by unfold Bits.sum; rw [if_pos h]

set_option maxHeartbeats 2000000 in
set_option maxRecDepth 100000 in
theorem ref13_near_in (mn mx wi ho : Int) (T L n m : Nat) (hT2 : T ≤ 9223372036854775807) (hL2 : L ≤ 999) (load : Int) (hm : max load 0 = m) (hm2 : m ≤ 9223372036854775807) (h1 : 1 ≤ n) (h2 : n ≤ 1073741824) (h : (Pol.mk mn mx T L wi ho).ok = true) (w : World) :
    Calls Tryz.prog 69 #[.agg #[.int .i64 mn, .int .i64 mx, .int .i64 T, .int .i64 L, .int .i64 wi, .int .i64 ho], .int .i64 load, .int .i64 n] w fun e w' => e = .returned (.bool (decide (m * 1000 ≤ 1000 * (n * T) + L * (n * T)) && decide (1000 * (n * T) ≤ m * 1000 + L * (n * T)))) ∧ Below w.heap.size w w' := by
  have hr : ∀ w, Calls Tryz.prog 15 #[.agg #[.int .i64 mn, .int .i64 mx, .int .i64 T, .int .i64 L, .int .i64 wi, .int .i64 ho]] w fun e w' => e = .returned (.bool true) ∧ Below w.heap.size w w' := by
    have := ref_polRight (Pol.mk mn mx T L wi ho)
    rw [h] at this
    exact this
  have hd := ref13_load load
  rw [hm] at hd
  have hO : n * T ≤ 1073741824 * 9223372036854775807 := Nat.mul_le_mul h2 hT2
  have m1 : ∀ w, Calls Tryz.prog 87 #[.int .u64 m, .int .u64 1000] w fun e w' => e = .returned (.agg (Bits.num (m * 1000))) ∧ Below w.heap.size w w' := ref_numMul m 1000 (by omega) (by omega)
  have m2 := ref_numMul n T (by omega) (by omega)
  obtain ⟨O, eO⟩ : ∃ O, O = n * T := ⟨_, rfl⟩
  rw [← eO] at hO m2 ⊢
  obtain ⟨X, eX⟩ : ∃ O, O = m * 1000 := ⟨_, rfl⟩
  have hX : X < 9223372036854775807000 + 1 := by omega
  rw [← eX] at m1 ⊢
  have HR := Lib.hid hr
  have HD := Lib.hid hd
  have M1 := Lib.hid m1
  have M2 := Lib.hid m2
  have HO := Lib.hid hO
  have HX := Lib.hid hX
  clear hr hd m1 m2 eO eX hm h hO hX
  go_enter Tryz.func69, Tryz.ntmps69
  go_wp2_with fail
  (with_reducible refine (HR.out _).mono ?_)
  rintro e w1 ⟨rfl, hb1⟩
  have k0 := (below1 w (.cells #[.int .i64 mn, .int .i64 mx, .int .i64 T, .int .i64 L, .int .i64 wi, .int .i64 ho] 23)).trans (hb1.mono (by simp))
  have k1 : w1.heap[w.heap.size]? = some (.cells #[.int .i64 mn, .int .i64 mx, .int .i64 T, .int .i64 L, .int .i64 wi, .int .i64 ho] 23 (0, 0)) := by rw [hb1.block _ (by simp)]; exact (by first | (with_reducible exact heap_1_0 _ _) | (with_reducible exact heap_2_0 _ _ _) | (with_reducible exact heap_2_1 _ _ _) | (with_reducible exact heap_3_0 _ _ _ _) | (with_reducible exact heap_3_1 _ _ _ _) | (with_reducible exact heap_3_2 _ _ _ _) | (with_reducible exact heap_4_0 _ _ _ _ _) | (with_reducible exact heap_4_1 _ _ _ _ _) | (with_reducible exact heap_4_2 _ _ _ _ _) | (with_reducible exact heap_4_3 _ _ _ _ _) | (with_reducible exact heap_5_0 _ _ _ _ _ _) | (with_reducible exact heap_5_1 _ _ _ _ _ _) | (with_reducible exact heap_5_2 _ _ _ _ _ _) | (with_reducible exact heap_5_3 _ _ _ _ _ _) | (with_reducible exact heap_5_4 _ _ _ _ _ _) | (with_reducible exact heap_6_0 _ _ _ _ _ _ _) | (with_reducible exact heap_6_1 _ _ _ _ _ _ _) | (with_reducible exact heap_6_2 _ _ _ _ _ _ _) | (with_reducible exact heap_6_3 _ _ _ _ _ _ _) | (with_reducible exact heap_6_4 _ _ _ _ _ _ _) | (with_reducible exact heap_6_5 _ _ _ _ _ _ _) | simp only [heap_alloc_past, heap_alloc_at, World.size_alloc, Nat.add_assoc, Nat.reduceAdd, Nat.lt_add_right_iff_pos, Nat.add_lt_add_iff_left, Nat.reduceLT, Nat.zero_lt_succ, Nat.lt_add_one])
  clear hb1
  have K0 := Lib.hid k0
  have K1 := Lib.hid k1
  clear k0 k1
  go_wp2_with fail
  (with_reducible refine (HD.out _).mono ?_)
  rintro e w2 ⟨rfl, rfl⟩
  go_wp2_with fail
  (with_reducible refine (M1.out _).mono ?_)
  rintro e w2 ⟨rfl, hb2⟩
  have k0 := K0.out.trans (hb2.mono K0.out.size)
  have k1 := (hb2.block _ (lt_of_heap K1.out)).trans K1.out
  have lt1 : w.heap.size < w2.heap.size := lt_of_heap k1
  have c2 : w2.cell? ⟨w.heap.size, 2, none⟩ = some (.int .i64 T) := by rw [cell_of_row _ _ _ _ _ _ k1]; rfl
  clear hb2 K0 K1
  have K0 := Lib.hid k0
  have K1 := Lib.hid k1
  clear k0 k1
  go_wp2_with (first | ((with_reducible refine wpList_alloc_as rfl _ rfl _ (numZero _) ?_); (try simp only)) | ((with_reducible refine wpList_store_rowAs rfl 130 _ _ rfl (w2.heap.size) (Bits.num X) ?_ ?_ 130 (Bits.num 0) 128 ?_ numInfo (Bits.num_size _) (Bits.num_size _) (num_oneCell _) ?_); exact rfl; exact rfl; exact (by first | (with_reducible exact heap_1_0 _ _) | (with_reducible exact heap_2_0 _ _ _) | (with_reducible exact heap_2_1 _ _ _) | (with_reducible exact heap_3_0 _ _ _ _) | (with_reducible exact heap_3_1 _ _ _ _) | (with_reducible exact heap_3_2 _ _ _ _) | (with_reducible exact heap_4_0 _ _ _ _ _) | (with_reducible exact heap_4_1 _ _ _ _ _) | (with_reducible exact heap_4_2 _ _ _ _ _) | (with_reducible exact heap_4_3 _ _ _ _ _) | (with_reducible exact heap_5_0 _ _ _ _ _ _) | (with_reducible exact heap_5_1 _ _ _ _ _ _) | (with_reducible exact heap_5_2 _ _ _ _ _ _) | (with_reducible exact heap_5_3 _ _ _ _ _ _) | (with_reducible exact heap_5_4 _ _ _ _ _ _) | (with_reducible exact heap_6_0 _ _ _ _ _ _ _) | (with_reducible exact heap_6_1 _ _ _ _ _ _ _) | (with_reducible exact heap_6_2 _ _ _ _ _ _ _) | (with_reducible exact heap_6_3 _ _ _ _ _ _ _) | (with_reducible exact heap_6_4 _ _ _ _ _ _ _) | (with_reducible exact heap_6_5 _ _ _ _ _ _ _) | simp only [heap_alloc_past, heap_alloc_at, World.size_alloc, Nat.add_assoc, Nat.reduceAdd, Nat.lt_add_right_iff_pos, Nat.add_lt_add_iff_left, Nat.reduceLT, Nat.zero_lt_succ, Nat.lt_add_one]); (first | rw [row_1_0] | rw [row_2_0] | rw [row_2_1] | rw [row_3_0] | rw [row_3_1] | rw [row_3_2] | rw [row_4_0] | rw [row_4_1] | rw [row_4_2] | rw [row_4_3] | rw [row_5_0] | rw [row_5_1] | rw [row_5_2] | rw [row_5_3] | rw [row_5_4] | rw [row_6_0] | rw [row_6_1] | rw [row_6_2] | rw [row_6_3] | rw [row_6_4] | rw [row_6_5] | simp only [setRow_alloc_past, setRow_alloc_at, World.size_alloc, Nat.add_assoc, Nat.reduceAdd, Nat.lt_add_right_iff_pos, Nat.add_lt_add_iff_left, Nat.reduceLT, Nat.zero_lt_succ, Nat.lt_add_one])))
  (with_reducible refine (M2.out _).mono ?_)
  rintro e w3 ⟨rfl, hb3⟩
  have k0 := (K0.out.alloc K0.out.size (.cells (Bits.num X) 130)).trans (hb3.mono (K0.out.alloc K0.out.size _).size)
  have k1 : w3.heap[w.heap.size]? = some (.cells #[.int .i64 mn, .int .i64 mx, .int .i64 T, .int .i64 L, .int .i64 wi, .int .i64 ho] 23 (0, 0)) := by rw [hb3.block _ (by simp; omega), heap_alloc_past _ _ _ lt1]; exact K1.out
  have k2 : w3.heap[w2.heap.size]? = some (.cells (Bits.num X) 130 (0, 0)) := by rw [hb3.block _ (by simp)]; exact heap_alloc_at _ _ _ rfl
  have lt2 : w2.heap.size < w3.heap.size := lt_of_heap k2
  clear hb3 K0 K1 c2
  have hM : NearMem w (((w3.alloc (.cells (Bits.num O) 130)).alloc (.cells (Bits.num 0) 130)).alloc (.cells (Bits.num 0) 130)) #[.int .i64 mn, .int .i64 mx, .int .i64 T, .int .i64 L, .int .i64 wi, .int .i64 ho] w2.heap.size w3.heap.size (w3.heap.size + 1) (w3.heap.size + 2) X O 0 0 := by
    refine ⟨((k0.alloc k0.size _).alloc (by have := k0.size; simp; omega) _).alloc (by have := k0.size; simp; omega) _, ?_, lt1, lt2, by omega, by omega, ?_, (by first | (with_reducible exact heap_1_0 _ _) | (with_reducible exact heap_2_0 _ _ _) | (with_reducible exact heap_2_1 _ _ _) | (with_reducible exact heap_3_0 _ _ _ _) | (with_reducible exact heap_3_1 _ _ _ _) | (with_reducible exact heap_3_2 _ _ _ _) | (with_reducible exact heap_4_0 _ _ _ _ _) | (with_reducible exact heap_4_1 _ _ _ _ _) | (with_reducible exact heap_4_2 _ _ _ _ _) | (with_reducible exact heap_4_3 _ _ _ _ _) | (with_reducible exact heap_5_0 _ _ _ _ _ _) | (with_reducible exact heap_5_1 _ _ _ _ _ _) | (with_reducible exact heap_5_2 _ _ _ _ _ _) | (with_reducible exact heap_5_3 _ _ _ _ _ _) | (with_reducible exact heap_5_4 _ _ _ _ _ _) | (with_reducible exact heap_6_0 _ _ _ _ _ _ _) | (with_reducible exact heap_6_1 _ _ _ _ _ _ _) | (with_reducible exact heap_6_2 _ _ _ _ _ _ _) | (with_reducible exact heap_6_3 _ _ _ _ _ _ _) | (with_reducible exact heap_6_4 _ _ _ _ _ _ _) | (with_reducible exact heap_6_5 _ _ _ _ _ _ _) | simp only [heap_alloc_past, heap_alloc_at, World.size_alloc, Nat.add_assoc, Nat.reduceAdd, Nat.lt_add_right_iff_pos, Nat.add_lt_add_iff_left, Nat.reduceLT, Nat.zero_lt_succ, Nat.lt_add_one]), (by first | (with_reducible exact heap_1_0 _ _) | (with_reducible exact heap_2_0 _ _ _) | (with_reducible exact heap_2_1 _ _ _) | (with_reducible exact heap_3_0 _ _ _ _) | (with_reducible exact heap_3_1 _ _ _ _) | (with_reducible exact heap_3_2 _ _ _ _) | (with_reducible exact heap_4_0 _ _ _ _ _) | (with_reducible exact heap_4_1 _ _ _ _ _) | (with_reducible exact heap_4_2 _ _ _ _ _) | (with_reducible exact heap_4_3 _ _ _ _ _) | (with_reducible exact heap_5_0 _ _ _ _ _ _) | (with_reducible exact heap_5_1 _ _ _ _ _ _) | (with_reducible exact heap_5_2 _ _ _ _ _ _) | (with_reducible exact heap_5_3 _ _ _ _ _ _) | (with_reducible exact heap_5_4 _ _ _ _ _ _) | (with_reducible exact heap_6_0 _ _ _ _ _ _ _) | (with_reducible exact heap_6_1 _ _ _ _ _ _ _) | (with_reducible exact heap_6_2 _ _ _ _ _ _ _) | (with_reducible exact heap_6_3 _ _ _ _ _ _ _) | (with_reducible exact heap_6_4 _ _ _ _ _ _ _) | (with_reducible exact heap_6_5 _ _ _ _ _ _ _) | simp only [heap_alloc_past, heap_alloc_at, World.size_alloc, Nat.add_assoc, Nat.reduceAdd, Nat.lt_add_right_iff_pos, Nat.add_lt_add_iff_left, Nat.reduceLT, Nat.zero_lt_succ, Nat.lt_add_one]), (by first | (with_reducible exact heap_1_0 _ _) | (with_reducible exact heap_2_0 _ _ _) | (with_reducible exact heap_2_1 _ _ _) | (with_reducible exact heap_3_0 _ _ _ _) | (with_reducible exact heap_3_1 _ _ _ _) | (with_reducible exact heap_3_2 _ _ _ _) | (with_reducible exact heap_4_0 _ _ _ _ _) | (with_reducible exact heap_4_1 _ _ _ _ _) | (with_reducible exact heap_4_2 _ _ _ _ _) | (with_reducible exact heap_4_3 _ _ _ _ _) | (with_reducible exact heap_5_0 _ _ _ _ _ _) | (with_reducible exact heap_5_1 _ _ _ _ _ _) | (with_reducible exact heap_5_2 _ _ _ _ _ _) | (with_reducible exact heap_5_3 _ _ _ _ _ _) | (with_reducible exact heap_5_4 _ _ _ _ _ _) | (with_reducible exact heap_6_0 _ _ _ _ _ _ _) | (with_reducible exact heap_6_1 _ _ _ _ _ _ _) | (with_reducible exact heap_6_2 _ _ _ _ _ _ _) | (with_reducible exact heap_6_3 _ _ _ _ _ _ _) | (with_reducible exact heap_6_4 _ _ _ _ _ _ _) | (with_reducible exact heap_6_5 _ _ _ _ _ _ _) | simp only [heap_alloc_past, heap_alloc_at, World.size_alloc, Nat.add_assoc, Nat.reduceAdd, Nat.lt_add_right_iff_pos, Nat.add_lt_add_iff_left, Nat.reduceLT, Nat.zero_lt_succ, Nat.lt_add_one])⟩
    · rw [heap_alloc_past _ _ _ (by simp; omega), heap_alloc_past _ _ _ (by simp; omega), heap_alloc_past _ _ _ (by omega)]; exact k1
    · rw [heap_alloc_past _ _ _ (by simp; omega), heap_alloc_past _ _ _ (by simp; omega), heap_alloc_past _ _ _ (by omega)]; exact k2
  have HM := Lib.hid hM
  clear hM k0 k1 k2
  go_wp2_with (first | ((with_reducible refine wpList_alloc_as rfl _ rfl _ (numZero _) ?_); (try simp only [World.size_alloc])) | (with_reducible refine wpList_build_as rfl _ rfl _ numBuilt ?_) | ((with_reducible refine wpList_store_rowAs rfl 130 _ _ rfl (w3.heap.size) (Bits.num O) ?_ ?_ 130 (Bits.num 0) 128 ?_ numInfo (Bits.num_size _) (Bits.num_size _) (num_oneCell _) ?_); exact rfl; exact rfl; exact (by first | (with_reducible exact heap_1_0 _ _) | (with_reducible exact heap_2_0 _ _ _) | (with_reducible exact heap_2_1 _ _ _) | (with_reducible exact heap_3_0 _ _ _ _) | (with_reducible exact heap_3_1 _ _ _ _) | (with_reducible exact heap_3_2 _ _ _ _) | (with_reducible exact heap_4_0 _ _ _ _ _) | (with_reducible exact heap_4_1 _ _ _ _ _) | (with_reducible exact heap_4_2 _ _ _ _ _) | (with_reducible exact heap_4_3 _ _ _ _ _) | (with_reducible exact heap_5_0 _ _ _ _ _ _) | (with_reducible exact heap_5_1 _ _ _ _ _ _) | (with_reducible exact heap_5_2 _ _ _ _ _ _) | (with_reducible exact heap_5_3 _ _ _ _ _ _) | (with_reducible exact heap_5_4 _ _ _ _ _ _) | (with_reducible exact heap_6_0 _ _ _ _ _ _ _) | (with_reducible exact heap_6_1 _ _ _ _ _ _ _) | (with_reducible exact heap_6_2 _ _ _ _ _ _ _) | (with_reducible exact heap_6_3 _ _ _ _ _ _ _) | (with_reducible exact heap_6_4 _ _ _ _ _ _ _) | (with_reducible exact heap_6_5 _ _ _ _ _ _ _) | simp only [heap_alloc_past, heap_alloc_at, World.size_alloc, Nat.add_assoc, Nat.reduceAdd, Nat.lt_add_right_iff_pos, Nat.add_lt_add_iff_left, Nat.reduceLT, Nat.zero_lt_succ, Nat.lt_add_one]); (first | rw [row_1_0] | rw [row_2_0] | rw [row_2_1] | rw [row_3_0] | rw [row_3_1] | rw [row_3_2] | rw [row_4_0] | rw [row_4_1] | rw [row_4_2] | rw [row_4_3] | rw [row_5_0] | rw [row_5_1] | rw [row_5_2] | rw [row_5_3] | rw [row_5_4] | rw [row_6_0] | rw [row_6_1] | rw [row_6_2] | rw [row_6_3] | rw [row_6_4] | rw [row_6_5] | simp only [setRow_alloc_past, setRow_alloc_at, World.size_alloc, Nat.add_assoc, Nat.reduceAdd, Nat.lt_add_right_iff_pos, Nat.add_lt_add_iff_left, Nat.reduceLT, Nat.zero_lt_succ, Nat.lt_add_one])) | ((with_reducible refine wpList_store_rowAs rfl 130 _ _ rfl ((w3.heap.size + 1)) (Bits.num 0) ?_ ?_ 130 (Bits.num 0) 128 ?_ numInfo (Bits.num_size _) (Bits.num_size _) (num_oneCell _) ?_); exact rfl; exact rfl; exact (by first | (with_reducible exact heap_1_0 _ _) | (with_reducible exact heap_2_0 _ _ _) | (with_reducible exact heap_2_1 _ _ _) | (with_reducible exact heap_3_0 _ _ _ _) | (with_reducible exact heap_3_1 _ _ _ _) | (with_reducible exact heap_3_2 _ _ _ _) | (with_reducible exact heap_4_0 _ _ _ _ _) | (with_reducible exact heap_4_1 _ _ _ _ _) | (with_reducible exact heap_4_2 _ _ _ _ _) | (with_reducible exact heap_4_3 _ _ _ _ _) | (with_reducible exact heap_5_0 _ _ _ _ _ _) | (with_reducible exact heap_5_1 _ _ _ _ _ _) | (with_reducible exact heap_5_2 _ _ _ _ _ _) | (with_reducible exact heap_5_3 _ _ _ _ _ _) | (with_reducible exact heap_5_4 _ _ _ _ _ _) | (with_reducible exact heap_6_0 _ _ _ _ _ _ _) | (with_reducible exact heap_6_1 _ _ _ _ _ _ _) | (with_reducible exact heap_6_2 _ _ _ _ _ _ _) | (with_reducible exact heap_6_3 _ _ _ _ _ _ _) | (with_reducible exact heap_6_4 _ _ _ _ _ _ _) | (with_reducible exact heap_6_5 _ _ _ _ _ _ _) | simp only [heap_alloc_past, heap_alloc_at, World.size_alloc, Nat.add_assoc, Nat.reduceAdd, Nat.lt_add_right_iff_pos, Nat.add_lt_add_iff_left, Nat.reduceLT, Nat.zero_lt_succ, Nat.lt_add_one]); (first | rw [row_1_0] | rw [row_2_0] | rw [row_2_1] | rw [row_3_0] | rw [row_3_1] | rw [row_3_2] | rw [row_4_0] | rw [row_4_1] | rw [row_4_2] | rw [row_4_3] | rw [row_5_0] | rw [row_5_1] | rw [row_5_2] | rw [row_5_3] | rw [row_5_4] | rw [row_6_0] | rw [row_6_1] | rw [row_6_2] | rw [row_6_3] | rw [row_6_4] | rw [row_6_5] | simp only [setRow_alloc_past, setRow_alloc_at, World.size_alloc, Nat.add_assoc, Nat.reduceAdd, Nat.lt_add_right_iff_pos, Nat.add_lt_add_iff_left, Nat.reduceLT, Nat.zero_lt_succ, Nat.lt_add_one])) | ((with_reducible refine wpList_store_rowAs rfl 130 _ _ rfl ((w3.heap.size + 2)) (Bits.num 0) ?_ ?_ 130 (Bits.num 0) 128 ?_ numInfo (Bits.num_size _) (Bits.num_size _) (num_oneCell _) ?_); exact rfl; exact rfl; exact (by first | (with_reducible exact heap_1_0 _ _) | (with_reducible exact heap_2_0 _ _ _) | (with_reducible exact heap_2_1 _ _ _) | (with_reducible exact heap_3_0 _ _ _ _) | (with_reducible exact heap_3_1 _ _ _ _) | (with_reducible exact heap_3_2 _ _ _ _) | (with_reducible exact heap_4_0 _ _ _ _ _) | (with_reducible exact heap_4_1 _ _ _ _ _) | (with_reducible exact heap_4_2 _ _ _ _ _) | (with_reducible exact heap_4_3 _ _ _ _ _) | (with_reducible exact heap_5_0 _ _ _ _ _ _) | (with_reducible exact heap_5_1 _ _ _ _ _ _) | (with_reducible exact heap_5_2 _ _ _ _ _ _) | (with_reducible exact heap_5_3 _ _ _ _ _ _) | (with_reducible exact heap_5_4 _ _ _ _ _ _) | (with_reducible exact heap_6_0 _ _ _ _ _ _ _) | (with_reducible exact heap_6_1 _ _ _ _ _ _ _) | (with_reducible exact heap_6_2 _ _ _ _ _ _ _) | (with_reducible exact heap_6_3 _ _ _ _ _ _ _) | (with_reducible exact heap_6_4 _ _ _ _ _ _ _) | (with_reducible exact heap_6_5 _ _ _ _ _ _ _) | simp only [heap_alloc_past, heap_alloc_at, World.size_alloc, Nat.add_assoc, Nat.reduceAdd, Nat.lt_add_right_iff_pos, Nat.add_lt_add_iff_left, Nat.reduceLT, Nat.zero_lt_succ, Nat.lt_add_one]); (first | rw [row_1_0] | rw [row_2_0] | rw [row_2_1] | rw [row_3_0] | rw [row_3_1] | rw [row_3_2] | rw [row_4_0] | rw [row_4_1] | rw [row_4_2] | rw [row_4_3] | rw [row_5_0] | rw [row_5_1] | rw [row_5_2] | rw [row_5_3] | rw [row_5_4] | rw [row_6_0] | rw [row_6_1] | rw [row_6_2] | rw [row_6_3] | rw [row_6_4] | rw [row_6_5] | simp only [setRow_alloc_past, setRow_alloc_at, World.size_alloc, Nat.add_assoc, Nat.reduceAdd, Nat.lt_add_right_iff_pos, Nat.add_lt_add_iff_left, Nat.reduceLT, Nat.zero_lt_succ, Nat.lt_add_one])))
  generalize ((w3.alloc (.cells (Bits.num O) 130)).alloc (.cells (Bits.num 0) 130)).alloc (.cells (Bits.num 0) 130) = w4 at *
  obtain ⟨A, hA⟩ : ∃ X, X = w2.heap.size := ⟨_, rfl⟩
  obtain ⟨B, hB⟩ : ∃ X, X = w3.heap.size := ⟨_, rfl⟩
  rw [← hA, ← hB] at HM
  rw [← hA, ← hB]
  clear hA hB lt1 lt2
  go_loopw [11] (fun i wr => ∃ k : Nat, k ≤ 1000 ∧ i = .int .i64 k ∧ NearMem w wr #[.int .i64 mn, .int .i64 mx, .int .i64 T, .int .i64 L, .int .i64 wi, .int .i64 ho] A B (B + 1) (B + 2) X O (k * O) (min k L * O)) (fun i _ => 1000 - (intOf i).toNat)
  case atStart => exact ⟨0, by omega, rfl, by rw [Nat.zero_min, Nat.zero_mul]; exact HM.out⟩
  case round =>
    clear HM
    obtain ⟨k, hk, rfl, hM⟩ := hrel
    have HM := Lib.hid hM
    have c3 : wr.cell? ⟨w.heap.size, 3, none⟩ = some (.int .i64 L) := by rw [cell_of_row _ _ _ _ _ _ hM.pol]; rfl
    clear hM
    by_cases hlt : k < 1000
    · have hm1 : k * O ≤ 1000 * (1073741824 * 9223372036854775807) := Nat.mul_le_mul (by omega) HO.out
      have a1 := ref_numAdd (k * O) O (by omega) (by have := HO.out; omega)
      rw [Bits.sum_of (by have := HO.out; omega), show k * O + O = (k + 1) * O by rw [Nat.add_mul, Nat.one_mul]] at a1
      have A1 := Lib.hid a1
      clear a1 hm1
      by_cases hkl : k < L
      · rw [show min k L = k by omega] at HM
        have HE : Hid (min (k + 1) L = k + 1) := by show min (k + 1) L = _; omega
        obtain ⟨Y, eY⟩ : ∃ Y, Y = k * O := ⟨_, rfl⟩
        obtain ⟨Z, eZ⟩ : ∃ Y, Y = (k + 1) * O := ⟨_, rfl⟩
        rw [← eY] at HM A1
        rw [← eZ] at A1
        have EZ := Lib.hid eZ
        clear eY eZ
        go_wp2_with (first | ((with_reducible refine wpList_load_rowAs rfl 130 _ rfl ((B + 1)) ?_ 130 (Bits.num Y) (0, 0) _ 128 ?_ Tryz.underlying130 rfl numInfo (Bits.num_size _) ?_); exact rfl; exact (HM.out.hc)) | ((with_reducible refine wpList_load_rowAs rfl 130 _ rfl (B) ?_ 130 (Bits.num O) (0, 0) _ 128 ?_ Tryz.underlying130 rfl numInfo (Bits.num_size _) ?_); exact rfl; exact (HM.out.hb)))
        (with_reducible refine (A1.out _).mono ?_)
        rintro e w5 ⟨rfl, hb5⟩
        have HM1 := Lib.hid (HM.out.call hb5)
        have HM2 := Lib.hid (HM1.out.setC Z)
        have c3 : (w5.setRow (B + 1) (Bits.num Z)).cell? ⟨w.heap.size, 3, none⟩ = some (.int .i64 L) := by rw [cell_of_row _ _ _ _ _ _ HM2.out.pol]; rfl
        clear hb5
        go_wp2_with (first | ((with_reducible refine wpList_store_rowAs rfl 130 _ _ rfl ((B + 1)) (Bits.num Z) ?_ ?_ 130 (Bits.num Y) 128 ?_ numInfo (Bits.num_size _) (Bits.num_size _) (num_oneCell _) ?_); exact rfl; exact rfl; exact (HM1.out.hc)) | ((with_reducible refine wpList_load_rowAs rfl 130 _ rfl ((B + 2)) ?_ 130 (Bits.num Y) (0, 0) _ 128 ?_ Tryz.underlying130 rfl numInfo (Bits.num_size _) ?_); exact rfl; exact (HM2.out.hd)) | ((with_reducible refine wpList_load_rowAs rfl 130 _ rfl (B) ?_ 130 (Bits.num O) (0, 0) _ 128 ?_ Tryz.underlying130 rfl numInfo (Bits.num_size _) ?_); exact rfl; exact (HM2.out.hb)))
        generalize w5.setRow (B + 1) (Bits.num Z) = w6 at *
        (with_reducible refine (A1.out _).mono ?_)
        rintro e w7 ⟨rfl, hb7⟩
        have HM3 := Lib.hid (HM2.out.call hb7)
        clear hb7 c3
        go_wp2_with (first | ((with_reducible refine wpList_store_rowAs rfl 130 _ _ rfl ((B + 2)) (Bits.num Z) ?_ ?_ 130 (Bits.num Y) 128 ?_ numInfo (Bits.num_size _) (Bits.num_size _) (num_oneCell _) ?_); exact rfl; exact rfl; exact (HM3.out.hd)))
        have HM4 := Lib.hid (HM3.out.setD Z)
        generalize w7.setRow (B + 2) (Bits.num Z) = w8 at *
        go_wp2
        go_roundw
        case rel => exact ⟨k + 1, by omega, by go_num, by rw [HE.out, ← EZ.out]; exact HM4.out⟩
        case measure => simp [intOf]; omega
      · rw [show min k L = L by omega] at HM
        have HE : Hid (min (k + 1) L = L) := by show min (k + 1) L = _; omega
        obtain ⟨Y, eY⟩ : ∃ Y, Y = k * O := ⟨_, rfl⟩
        obtain ⟨Z, eZ⟩ : ∃ Y, Y = (k + 1) * O := ⟨_, rfl⟩
        rw [← eY] at HM A1
        rw [← eZ] at A1
        have EZ := Lib.hid eZ
        clear eY eZ
        go_wp2_with (first | ((with_reducible refine wpList_load_rowAs rfl 130 _ rfl ((B + 1)) ?_ 130 (Bits.num Y) (0, 0) _ 128 ?_ Tryz.underlying130 rfl numInfo (Bits.num_size _) ?_); exact rfl; exact (HM.out.hc)) | ((with_reducible refine wpList_load_rowAs rfl 130 _ rfl (B) ?_ 130 (Bits.num O) (0, 0) _ 128 ?_ Tryz.underlying130 rfl numInfo (Bits.num_size _) ?_); exact rfl; exact (HM.out.hb)))
        (with_reducible refine (A1.out _).mono ?_)
        rintro e w5 ⟨rfl, hb5⟩
        have HM1 := Lib.hid (HM.out.call hb5)
        have HM2 := Lib.hid (HM1.out.setC Z)
        have c3 : (w5.setRow (B + 1) (Bits.num Z)).cell? ⟨w.heap.size, 3, none⟩ = some (.int .i64 L) := by rw [cell_of_row _ _ _ _ _ _ HM2.out.pol]; rfl
        clear hb5
        go_wp2_with (first | ((with_reducible refine wpList_store_rowAs rfl 130 _ _ rfl ((B + 1)) (Bits.num Z) ?_ ?_ 130 (Bits.num Y) 128 ?_ numInfo (Bits.num_size _) (Bits.num_size _) (num_oneCell _) ?_); exact rfl; exact rfl; exact (HM1.out.hc)))
        generalize w5.setRow (B + 1) (Bits.num Z) = w6 at *
        clear c3
        go_roundw
        case rel => exact ⟨k + 1, by omega, by go_num, by rw [HE.out, ← EZ.out]; exact HM2.out⟩
        case measure => simp [intOf]; omega
    · obtain rfl : k = 1000 := by omega
      rw [show min 1000 L = L by omega] at HM
      have hm1 : 1000 * O ≤ 1000 * (1073741824 * 9223372036854775807) := Nat.mul_le_mul_left _ HO.out
      have hm2 : L * O ≤ 999 * (1073741824 * 9223372036854775807) := Nat.mul_le_mul hL2 HO.out
      have a1 := ref_numAdd (1000 * O) (L * O) (by omega) (by omega)
      have a2 := ref_numAdd X (L * O) (by have := HX.out; omega) (by omega)
      rw [Bits.sum_of (by omega), show Bits.fits (1000 * O) (L * O) = true from decide_eq_true (by omega)] at a1
      rw [Bits.sum_of (by have := HX.out; omega), show Bits.fits X (L * O) = true from decide_eq_true (by have := HX.out; omega)] at a2
      have q1 := ref_numCmp X (1000 * O + L * O) (by have := HX.out; omega) (by omega)
      have q2 := ref_numCmp (1000 * O) (X + L * O) (by omega) (by have := HX.out; omega)
      obtain ⟨U, eU⟩ : ∃ U, U = 1000 * O + L * O := ⟨_, rfl⟩
      obtain ⟨V, eV⟩ : ∃ V, V = X + L * O := ⟨_, rfl⟩
      rw [← eU] at a1 q1
      rw [← eV] at a2 q2
      obtain ⟨M, eM⟩ : ∃ M, M = 1000 * O := ⟨_, rfl⟩
      obtain ⟨N, eN⟩ : ∃ N, N = L * O := ⟨_, rfl⟩
      rw [← eM] at HM a1 q2
      rw [← eN] at HM a1 a2
      obtain ⟨x, ex⟩ : ∃ x, x = Bits.cmp X U := ⟨_, rfl⟩
      obtain ⟨y, ey⟩ : ∃ y, y = Bits.cmp M V := ⟨_, rfl⟩
      rw [← ex] at q1
      rw [← ey] at q2
      have HE : Hid ((decide (X ≤ 1000 * O + L * O) && decide (1000 * O ≤ X + L * O)) = (decide (x ≤ 0) && decide (y ≤ 0))) := by show (_ && _) = (_ && _); rw [ex, ey, Bits.cmp_le, Bits.cmp_le, eU, eV, eM]
      clear eU eV eM eN hm1 hm2
      have A1 := Lib.hid a1
      have A2 := Lib.hid a2
      have Q1 := Lib.hid q1
      have Q2 := Lib.hid q2
      clear a1 a2 q1 q2 ex ey c3
      go_wp2_with (first | ((with_reducible refine wpList_load_rowAs rfl 130 _ rfl ((B + 1)) ?_ 130 (Bits.num M) (0, 0) _ 128 ?_ Tryz.underlying130 rfl numInfo (Bits.num_size _) ?_); exact rfl; exact (HM.out.hc)) | ((with_reducible refine wpList_load_rowAs rfl 130 _ rfl ((B + 2)) ?_ 130 (Bits.num N) (0, 0) _ 128 ?_ Tryz.underlying130 rfl numInfo (Bits.num_size _) ?_); exact rfl; exact (HM.out.hd)))
      (with_reducible refine (A1.out _).mono ?_)
      rintro e w5 ⟨rfl, hb5⟩
      have hM1 := HM.out.call hb5
      have hlt5 := hM1.dlt
      have HM1 := Lib.hid (hM1.alloc (.cells (Bits.num U) 130))
      clear hb5 hM1
      go_wp2_with (first | ((with_reducible refine wpList_alloc_as rfl _ rfl _ (numZero _) ?_); (try simp only)) | ((with_reducible refine wpList_store_rowAs rfl 130 _ _ rfl (w5.heap.size) (Bits.num U) ?_ ?_ 130 (Bits.num 0) 128 ?_ numInfo (Bits.num_size _) (Bits.num_size _) (num_oneCell _) ?_); exact rfl; exact rfl; exact (by first | (with_reducible exact heap_1_0 _ _) | (with_reducible exact heap_2_0 _ _ _) | (with_reducible exact heap_2_1 _ _ _) | (with_reducible exact heap_3_0 _ _ _ _) | (with_reducible exact heap_3_1 _ _ _ _) | (with_reducible exact heap_3_2 _ _ _ _) | (with_reducible exact heap_4_0 _ _ _ _ _) | (with_reducible exact heap_4_1 _ _ _ _ _) | (with_reducible exact heap_4_2 _ _ _ _ _) | (with_reducible exact heap_4_3 _ _ _ _ _) | (with_reducible exact heap_5_0 _ _ _ _ _ _) | (with_reducible exact heap_5_1 _ _ _ _ _ _) | (with_reducible exact heap_5_2 _ _ _ _ _ _) | (with_reducible exact heap_5_3 _ _ _ _ _ _) | (with_reducible exact heap_5_4 _ _ _ _ _ _) | (with_reducible exact heap_6_0 _ _ _ _ _ _ _) | (with_reducible exact heap_6_1 _ _ _ _ _ _ _) | (with_reducible exact heap_6_2 _ _ _ _ _ _ _) | (with_reducible exact heap_6_3 _ _ _ _ _ _ _) | (with_reducible exact heap_6_4 _ _ _ _ _ _ _) | (with_reducible exact heap_6_5 _ _ _ _ _ _ _) | simp only [heap_alloc_past, heap_alloc_at, World.size_alloc, Nat.add_assoc, Nat.reduceAdd, Nat.lt_add_right_iff_pos, Nat.add_lt_add_iff_left, Nat.reduceLT, Nat.zero_lt_succ, Nat.lt_add_one]); (first | rw [row_1_0] | rw [row_2_0] | rw [row_2_1] | rw [row_3_0] | rw [row_3_1] | rw [row_3_2] | rw [row_4_0] | rw [row_4_1] | rw [row_4_2] | rw [row_4_3] | rw [row_5_0] | rw [row_5_1] | rw [row_5_2] | rw [row_5_3] | rw [row_5_4] | rw [row_6_0] | rw [row_6_1] | rw [row_6_2] | rw [row_6_3] | rw [row_6_4] | rw [row_6_5] | simp only [setRow_alloc_past, setRow_alloc_at, World.size_alloc, Nat.add_assoc, Nat.reduceAdd, Nat.lt_add_right_iff_pos, Nat.add_lt_add_iff_left, Nat.reduceLT, Nat.zero_lt_succ, Nat.lt_add_one])) | ((with_reducible refine wpList_load_rowAs rfl 130 _ rfl (A) ?_ 130 (Bits.num X) (0, 0) _ 128 ?_ Tryz.underlying130 rfl numInfo (Bits.num_size _) ?_); exact rfl; exact (HM1.out.ha)) | ((with_reducible refine wpList_load_rowAs rfl 130 _ rfl ((B + 2)) ?_ 130 (Bits.num N) (0, 0) _ 128 ?_ Tryz.underlying130 rfl numInfo (Bits.num_size _) ?_); exact rfl; exact (HM1.out.hd)))
      (with_reducible refine (A2.out _).mono ?_)
      rintro e w6 ⟨rfl, hb6⟩
      have k5 : w6.heap[w5.heap.size]? = some (.cells (Bits.num U) 130 (0, 0)) := by rw [hb6.block _ (by simp)]; exact heap_alloc_at _ _ _ rfl
      have lt6 : w5.heap.size < w6.heap.size := lt_of_heap k5
      have hM2 := HM1.out.call hb6
      have HM2 := Lib.hid (hM2.alloc (.cells (Bits.num V) 130))
      have K5 := Lib.hid k5
      clear hb6 hM2 k5
      go_wp2_with (first | ((with_reducible refine wpList_alloc_as rfl _ rfl _ (numZero _) ?_); (try simp only)) | ((with_reducible refine wpList_store_rowAs rfl 130 _ _ rfl (w6.heap.size) (Bits.num V) ?_ ?_ 130 (Bits.num 0) 128 ?_ numInfo (Bits.num_size _) (Bits.num_size _) (num_oneCell _) ?_); exact rfl; exact rfl; exact (by first | (with_reducible exact heap_1_0 _ _) | (with_reducible exact heap_2_0 _ _ _) | (with_reducible exact heap_2_1 _ _ _) | (with_reducible exact heap_3_0 _ _ _ _) | (with_reducible exact heap_3_1 _ _ _ _) | (with_reducible exact heap_3_2 _ _ _ _) | (with_reducible exact heap_4_0 _ _ _ _ _) | (with_reducible exact heap_4_1 _ _ _ _ _) | (with_reducible exact heap_4_2 _ _ _ _ _) | (with_reducible exact heap_4_3 _ _ _ _ _) | (with_reducible exact heap_5_0 _ _ _ _ _ _) | (with_reducible exact heap_5_1 _ _ _ _ _ _) | (with_reducible exact heap_5_2 _ _ _ _ _ _) | (with_reducible exact heap_5_3 _ _ _ _ _ _) | (with_reducible exact heap_5_4 _ _ _ _ _ _) | (with_reducible exact heap_6_0 _ _ _ _ _ _ _) | (with_reducible exact heap_6_1 _ _ _ _ _ _ _) | (with_reducible exact heap_6_2 _ _ _ _ _ _ _) | (with_reducible exact heap_6_3 _ _ _ _ _ _ _) | (with_reducible exact heap_6_4 _ _ _ _ _ _ _) | (with_reducible exact heap_6_5 _ _ _ _ _ _ _) | simp only [heap_alloc_past, heap_alloc_at, World.size_alloc, Nat.add_assoc, Nat.reduceAdd, Nat.lt_add_right_iff_pos, Nat.add_lt_add_iff_left, Nat.reduceLT, Nat.zero_lt_succ, Nat.lt_add_one]); (first | rw [row_1_0] | rw [row_2_0] | rw [row_2_1] | rw [row_3_0] | rw [row_3_1] | rw [row_3_2] | rw [row_4_0] | rw [row_4_1] | rw [row_4_2] | rw [row_4_3] | rw [row_5_0] | rw [row_5_1] | rw [row_5_2] | rw [row_5_3] | rw [row_5_4] | rw [row_6_0] | rw [row_6_1] | rw [row_6_2] | rw [row_6_3] | rw [row_6_4] | rw [row_6_5] | simp only [setRow_alloc_past, setRow_alloc_at, World.size_alloc, Nat.add_assoc, Nat.reduceAdd, Nat.lt_add_right_iff_pos, Nat.add_lt_add_iff_left, Nat.reduceLT, Nat.zero_lt_succ, Nat.lt_add_one])) | ((with_reducible refine wpList_load_rowAs rfl 130 _ rfl (A) ?_ 130 (Bits.num X) (0, 0) _ 128 ?_ Tryz.underlying130 rfl numInfo (Bits.num_size _) ?_); exact rfl; exact (HM2.out.ha)) | ((with_reducible refine wpList_load_rowAs rfl 130 _ rfl (w5.heap.size) ?_ 130 (Bits.num U) (0, 0) _ 128 ?_ Tryz.underlying130 rfl numInfo (Bits.num_size _) ?_); exact rfl; exact (by rw [heap_alloc_past _ _ _ lt6]; exact K5.out)))
      (with_reducible refine (Q1.out _).mono ?_)
      rintro e w7 ⟨rfl, hb7⟩
      have HM3 := Lib.hid (HM2.out.call hb7)
      have K6 : Hid (w7.heap[w6.heap.size]? = some (.cells (Bits.num V) 130 (0, 0))) := by show w7.heap[w6.heap.size]? = _; rw [hb7.block _ (by simp)]; exact heap_alloc_at _ _ _ rfl
      clear hb7
      by_cases hx : x ≤ 0
      · go_wp2_with (first | ((with_reducible refine wpList_load_rowG ?_ 130 _ rfl ((B + 1)) ?_ 130 (Bits.num M) (0, 0) _ 128 ?_ Tryz.underlying130 rfl numInfo (Bits.num_size _) ?_); kernel_rfl; exact rfl; exact (HM3.out.hc)) | ((with_reducible refine wpList_load_rowG ?_ 130 _ rfl (w6.heap.size) ?_ 130 (Bits.num V) (0, 0) _ 128 ?_ Tryz.underlying130 rfl numInfo (Bits.num_size _) ?_); kernel_rfl; exact rfl; exact K6.out))
        (with_reducible refine (Q2.out _).mono ?_)
        rintro e w8 ⟨rfl, hb8⟩
        have HM4 := Lib.hid (HM3.out.call hb8)
        clear hb8
        go_wp2
        go_ret
        exact ⟨ret_bool (by rw [HE.out, decide_eq_true hx]; simp), HM4.out.below⟩
      · have hx0 : 0 < x := by omega
        have hxd : decide (x ≤ 0) = false := decide_eq_false hx
        have HF : Hid ((decide (x ≤ 0) && decide (y ≤ 0)) = false) := by show (_ && _) = false; rw [hxd]; rfl
        go_wp2
        go_ret
        exact ⟨ret_bool (by rw [HE.out, HF.out]), HM3.out.below⟩

theorem ref13_near (p : Pol) (hp : p.In) (load now : Int) (hl : I64 load) (w : World) :
    Calls Tryz.prog 69 #[.agg #[.int .i64 p.mn, .int .i64 p.mx, .int .i64 p.tg, .int .i64 p.tl, .int .i64 p.wi, .int .i64 p.ho], .int .i64 load, .int .i64 now] w fun e w' => e = .returned (.bool (p.near load now)) ∧ Below w.heap.size w w' := by
  by_cases h : p.ok = false ∨ now < 1 ∨ 1073741824 < now
  · rw [Pol.near_out h]
    exact ref13_near_out p load now w h
  · have hok : p.ok = true := by simpa using fun e => h (.inl e)
    have h1 : 1 ≤ now := by omega
    have h2 : now ≤ 1073741824 := by omega
    have hf := Pol.fine hok
    obtain ⟨mn, mx, tg, tl, wi, ho⟩ := p
    obtain ⟨_, _, ⟨_, t2⟩, _⟩ := hp
    simp only [Pol.Fine] at hf
    simp only at t2
    obtain ⟨T, rfl⟩ : ∃ T : Nat, tg = T := ⟨tg.toNat, by omega⟩
    obtain ⟨L, rfl⟩ : ∃ T : Nat, tl = T := ⟨tl.toNat, by omega⟩
    obtain ⟨n, rfl⟩ : ∃ T : Nat, now = T := ⟨now.toNat, by omega⟩
    obtain ⟨m, hm⟩ : ∃ m : Nat, max load 0 = m := ⟨(max load 0).toNat, by omega⟩
    rw [Pol.near_in hok h1 h2 (X := m * 1000) (Y := 1000 * (n * T)) (Z := L * (n * T)) (by rw [hm]; simp; omega) (by simp [Int.mul_assoc]) (by simp [Int.mul_assoc])]
    exact ref13_near_in mn mx wi ho T L n m (by omega) (by omega) load hm (by unfold I64 at hl; omega) (by omega) (by omega) hok w

def Pol.open' (p : Pol) (load now : Int) : Int := if p.near load now = true then now else p.want load

set_option maxRecDepth 100000 in
theorem ref13_open (p : Pol) (hp : p.In) (load now : Int) (hl : I64 load) (w : World) :
    Calls Tryz.prog 41 #[.agg #[.int .i64 p.mn, .int .i64 p.mx, .int .i64 p.tg, .int .i64 p.tl, .int .i64 p.wi, .int .i64 p.ho], .int .i64 load, .int .i64 now] w fun e w' => e = .returned (.int .i64 (p.open' load now)) ∧ Below w.heap.size w w' := by
  have hn := ref13_near p hp load now hl
  by_cases h : p.near load now = true
  · have HE : Hid (p.open' load now = now) := by show _ = _; unfold Pol.open'; rw [if_pos h]
    rw [h] at hn
    have HN := Lib.hid hn
    clear h hn hp hl
    go_enter Tryz.func41, Tryz.ntmps41
    go_wp2_with fail
    (with_reducible refine (HN.out _).mono ?_)
    rintro e w1 ⟨rfl, hb1⟩
    have K0 := Lib.hid ((below1 w (.cells #[.int .i64 p.mn, .int .i64 p.mx, .int .i64 p.tg, .int .i64 p.tl, .int .i64 p.wi, .int .i64 p.ho] 23)).trans (hb1.mono (by simp)))
    clear hb1
    go_wp2
    go_ret
    exact ⟨ret_int HE.out.symm, K0.out⟩
  · have HE : Hid (p.open' load now = p.want load) := by show _ = _; unfold Pol.open'; rw [if_neg h]
    rw [show p.near load now = false by simpa using h] at hn
    have hw := ref13_want p load hl
    have HN := Lib.hid hn
    have HW := Lib.hid hw
    clear h hn hp hl hw
    go_enter Tryz.func41, Tryz.ntmps41
    go_wp2_with fail
    (with_reducible refine (HN.out _).mono ?_)
    rintro e w1 ⟨rfl, hb1⟩
    have k0 := (below1 w (.cells #[.int .i64 p.mn, .int .i64 p.mx, .int .i64 p.tg, .int .i64 p.tl, .int .i64 p.wi, .int .i64 p.ho] 23)).trans (hb1.mono (by simp))
    have k1 : w1.heap[w.heap.size]? = some (.cells #[.int .i64 p.mn, .int .i64 p.mx, .int .i64 p.tg, .int .i64 p.tl, .int .i64 p.wi, .int .i64 p.ho] 23 (0, 0)) := by rw [hb1.block _ (by simp)]; exact (by first | (with_reducible exact heap_1_0 _ _) | (with_reducible exact heap_2_0 _ _ _) | (with_reducible exact heap_2_1 _ _ _) | (with_reducible exact heap_3_0 _ _ _ _) | (with_reducible exact heap_3_1 _ _ _ _) | (with_reducible exact heap_3_2 _ _ _ _) | (with_reducible exact heap_4_0 _ _ _ _ _) | (with_reducible exact heap_4_1 _ _ _ _ _) | (with_reducible exact heap_4_2 _ _ _ _ _) | (with_reducible exact heap_4_3 _ _ _ _ _) | (with_reducible exact heap_5_0 _ _ _ _ _ _) | (with_reducible exact heap_5_1 _ _ _ _ _ _) | (with_reducible exact heap_5_2 _ _ _ _ _ _) | (with_reducible exact heap_5_3 _ _ _ _ _ _) | (with_reducible exact heap_5_4 _ _ _ _ _ _) | (with_reducible exact heap_6_0 _ _ _ _ _ _ _) | (with_reducible exact heap_6_1 _ _ _ _ _ _ _) | (with_reducible exact heap_6_2 _ _ _ _ _ _ _) | (with_reducible exact heap_6_3 _ _ _ _ _ _ _) | (with_reducible exact heap_6_4 _ _ _ _ _ _ _) | (with_reducible exact heap_6_5 _ _ _ _ _ _ _) | simp only [heap_alloc_past, heap_alloc_at, World.size_alloc, Nat.add_assoc, Nat.reduceAdd, Nat.lt_add_right_iff_pos, Nat.add_lt_add_iff_left, Nat.reduceLT, Nat.zero_lt_succ, Nat.lt_add_one])
    clear hb1
    have K0 := Lib.hid k0
    have K1 := Lib.hid k1
    clear k0 k1
    go_wp2_with ((with_reducible refine wpList_load_rowAs rfl 23 _ rfl (w.heap.size) ?_ 23 #[.int .i64 p.mn, .int .i64 p.mx, .int .i64 p.tg, .int .i64 p.tl, .int .i64 p.wi, .int .i64 p.ho] (0, 0) _ 6 ?_ Tryz.underlying23 rfl (by kernel_rfl) ?_ ?_); exact rfl; exact K1.out; exact rfl)
    (with_reducible refine (HW.out _).mono ?_)
    rintro e w2 ⟨rfl, hb2⟩
    have K2 := Lib.hid (K0.out.trans (hb2.mono K0.out.size))
    clear hb2
    go_wp2
    go_ret
    exact ⟨ret_int HE.out.symm, K2.out⟩
end Go.Proofs.YtldhbgefpfmkmaaGreat
