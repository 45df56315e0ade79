/- Layer 2: the laws, walked. -/
import Derived.Test.YthlcjigpccmbmaaLaws02
import Derived.Test.YthlcjigpccmbmaaOpen
namespace Go.Proofs.Ythlcjigpccmbmaa
open Go.ChangeShapes Go.WideShapes Go.ChangeAt Go.RowKit

set_option maxRecDepth 100000 in
theorem awake02 (w : World) : Calls Try.prog 29 #[] w fun e w' => e = .returned (.bool true) ∧ Below w.heap.size w w' := by
  have h1 := wide_scale 10 3 4 (by unfold I64; omega) (by unfold I64; omega) (by unfold I64; omega)
  rw [show Wide.scale 10 3 4 = 8 by decide] at h1
  have h2 : ∀ w, Calls Try.prog 34 #[.int .u64 9223372036854775808, .int .u64 4] w fun e w' => e = .returned (.agg #[.int .u64 2, .int .u64 0]) ∧ Below w.heap.size w w' :=
    wide_mul 9223372036854775808 4 (by omega) (by omega)
  go_enter Try.func29, Try.ntmps29
  go_wp2_with fail
  (with_reducible refine (h1 _).mono ?_)
  rintro e w1 ⟨rfl, hb1⟩
  have HB1 := Lib.hid hb1
  clear hb1
  go_wp2_with fail
  (with_reducible refine (h2 _).mono ?_)
  rintro e w2 ⟨rfl, hb2⟩
  have HB2 := Lib.hid (HB1.out.trans (hb2.mono HB1.out.size))
  clear hb2
  have h3 := wide_mean (some ⟨w2.heap.size, 0, none⟩) 2 [1, 2] (w2.alloc (.cells #[.int .i64 1, .int .i64 2] 2)) (Or.inr ⟨_, 0, rfl, by simp, fun j hj => by
    rw [World.cell?_alloc_at _ _ _ _ rfl]
    match j, hj with
    | 0, _ => rfl
    | 1, _ => rfl⟩) (by intro n hn; simp at hn; unfold I64; omega) (by simp)
  rw [show Wide.up (Bits.total [1, 2]) [(1 : Int), 2].length = 2 by decide] at h3
  go_wp2_with fail
  refine h3.mono ?_
  rintro e w3 ⟨rfl, hb3⟩
  have HB3 := Lib.hid ((HB2.out.alloc HB2.out.size _).trans (hb3.mono (by simp; exact Nat.le_trans HB2.out.size (Nat.le_succ _))))
  clear hb3
  go_wp2
  go_ret
  exact ⟨rfl, HB3.out⟩

set_option maxHeartbeats 4000000 in
set_option maxRecDepth 100000 in
theorem wideAdds_walk (a b : Nat) (ha : a < 18446744073709551616) (hb : b < 18446744073709551616) (x y : Nat) (hx : x < 340282366920938463463374607431768211456) (hy : y < 340282366920938463463374607431768211456) (w : World) :
    Calls Try.prog 8 #[.int .u64 a, .int .u64 b, two x, two y] w fun e w' => e = .returned (.bool true) ∧ Below w.heap.size w w' := by
  have hs : Bits.sum x y < 340282366920938463463374607431768211456 := by unfold Bits.sum; split <;> omega
  have hadd : ∀ w, Calls Try.prog 30 #[.agg (cells2 x), .agg (cells2 y)] w fun e w' => e = .returned (.tuple #[.agg (cells2 (Bits.sum x y)), .bool (Bits.fits x y)]) ∧ Below w.heap.size w w' := wide_add' x y hx hy
  have hradd := ref_numAdd x y hx hy
  have hmul : ∀ w, Calls Try.prog 34 #[.int .u64 a, .int .u64 b] w fun e w' => e = .returned (.agg (cells2 (a * b))) ∧ Below w.heap.size w w' := wide_mul a b ha hb
  have hrmul := ref_numMul a b ha hb
  have hisM : ∀ w, Calls Try.prog 33 #[.agg (cells2 (a * b)), .agg (Bits.num (a * b))] w fun e w' => e = .returned (.bool true) ∧ Below w.heap.size w w' := law_is (a * b) (Bits.mul_lt ha hb)
  have hisS : ∀ w, Calls Try.prog 33 #[.agg (cells2 (Bits.sum x y)), .agg (Bits.num (Bits.sum x y))] w fun e w' => e = .returned (.bool true) ∧ Below w.heap.size w w' := law_is (Bits.sum x y) hs
  have hcmp : ∀ w, Calls Try.prog 36 #[.agg (cells2 x), .agg (cells2 y)] w fun e w' => e = .returned (.int .i64 (Bits.cmp x y)) ∧ Below w.heap.size w w' := wide_cmp' x y
  have hrcmp := ref_numCmp x y hx hy
  have hnx : ∀ w, Calls Try.prog 32 #[.agg (cells2 x)] w fun e w' => e = .returned (.agg (Bits.num x)) ∧ Below w.heap.size w w' := law_num x hx
  have hny : ∀ w, Calls Try.prog 32 #[.agg (cells2 y)] w fun e w' => e = .returned (.agg (Bits.num y)) ∧ Below w.heap.size w w' := law_num y hy
  rw [two_cells x, two_cells y]
  obtain ⟨s, hse⟩ : ∃ s, s = Bits.sum x y := ⟨_, rfl⟩
  obtain ⟨f, hfe⟩ : ∃ f, f = Bits.fits x y := ⟨_, rfl⟩
  obtain ⟨m, hme⟩ : ∃ m, m = a * b := ⟨_, rfl⟩
  obtain ⟨c, hce⟩ : ∃ c, c = Bits.cmp x y := ⟨_, rfl⟩
  rw [← hse, ← hfe] at hadd hradd
  rw [← hse] at hisS
  rw [← hme] at hmul hrmul hisM
  rw [← hce] at hcmp hrcmp
  clear hse hfe hme hce hs
  go_enter Try.func8, Try.ntmps8
  go_wp2_with fail
  (with_reducible refine (awake02 _).mono ?_)
  rintro e w1 ⟨rfl, hb1⟩
  have k0 := (below2 w (.cells (cells2 x) 36) (.cells (cells2 y) 36)).trans (hb1.mono (by simp; omega))
  have k1 : w1.heap[w.heap.size]? = some (.cells (cells2 x) 36 (0, 0)) := by rw [hb1.block _ (by simp; omega)]; exact (by first | (with_reducible exact heap_1_0 _ _) | (with_reducible exact heap_2_0 _ _ _) | (with_reducible exact heap_2_1 _ _ _) | (with_reducible exact heap_3_0 _ _ _ _) | (with_reducible exact heap_3_1 _ _ _ _) | (with_reducible exact heap_3_2 _ _ _ _) | (with_reducible exact heap_4_0 _ _ _ _ _) | (with_reducible exact heap_4_1 _ _ _ _ _) | (with_reducible exact heap_4_2 _ _ _ _ _) | (with_reducible exact heap_4_3 _ _ _ _ _) | (with_reducible exact heap_5_0 _ _ _ _ _ _) | (with_reducible exact heap_5_1 _ _ _ _ _ _) | (with_reducible exact heap_5_2 _ _ _ _ _ _) | (with_reducible exact heap_5_3 _ _ _ _ _ _) | (with_reducible exact heap_5_4 _ _ _ _ _ _) | (with_reducible exact heap_6_0 _ _ _ _ _ _ _) | (with_reducible exact heap_6_1 _ _ _ _ _ _ _) | (with_reducible exact heap_6_2 _ _ _ _ _ _ _) | (with_reducible exact heap_6_3 _ _ _ _ _ _ _) | (with_reducible exact heap_6_4 _ _ _ _ _ _ _) | (with_reducible exact heap_6_5 _ _ _ _ _ _ _) | simp only [heap_alloc_past, heap_alloc_at, World.size_alloc, Nat.add_assoc, Nat.reduceAdd, Nat.lt_add_right_iff_pos, Nat.add_lt_add_iff_left, Nat.reduceLT, Nat.zero_lt_succ, Nat.lt_add_one])
  have k2 : w1.heap[w.heap.size + 1]? = some (.cells (cells2 y) 36 (0, 0)) := by rw [hb1.block _ (by simp)]; exact (by first | (with_reducible exact heap_1_0 _ _) | (with_reducible exact heap_2_0 _ _ _) | (with_reducible exact heap_2_1 _ _ _) | (with_reducible exact heap_3_0 _ _ _ _) | (with_reducible exact heap_3_1 _ _ _ _) | (with_reducible exact heap_3_2 _ _ _ _) | (with_reducible exact heap_4_0 _ _ _ _ _) | (with_reducible exact heap_4_1 _ _ _ _ _) | (with_reducible exact heap_4_2 _ _ _ _ _) | (with_reducible exact heap_4_3 _ _ _ _ _) | (with_reducible exact heap_5_0 _ _ _ _ _ _) | (with_reducible exact heap_5_1 _ _ _ _ _ _) | (with_reducible exact heap_5_2 _ _ _ _ _ _) | (with_reducible exact heap_5_3 _ _ _ _ _ _) | (with_reducible exact heap_5_4 _ _ _ _ _ _) | (with_reducible exact heap_6_0 _ _ _ _ _ _ _) | (with_reducible exact heap_6_1 _ _ _ _ _ _ _) | (with_reducible exact heap_6_2 _ _ _ _ _ _ _) | (with_reducible exact heap_6_3 _ _ _ _ _ _ _) | (with_reducible exact heap_6_4 _ _ _ _ _ _ _) | (with_reducible exact heap_6_5 _ _ _ _ _ _ _) | simp only [heap_alloc_past, heap_alloc_at, World.size_alloc, Nat.add_assoc, Nat.reduceAdd, Nat.lt_add_right_iff_pos, Nat.add_lt_add_iff_left, Nat.reduceLT, Nat.zero_lt_succ, Nat.lt_add_one])
  have K0 := Lib.hid k0
  have K1 := Lib.hid k1
  have K2 := Lib.hid k2
  clear hb1 k0 k1 k2
  go_wp2_with (first | ((with_reducible refine wpList_load_rowAs rfl 36 _ rfl (w.heap.size) ?_ 36 (cells2 x) (0, 0) _ 2 ?_ Try.underlying36 rfl twoInfo rfl ?_); exact rfl; exact (K1.out)) | ((with_reducible refine wpList_load_rowAs rfl 36 _ rfl ((w.heap.size + 1)) ?_ 36 (cells2 y) (0, 0) _ 2 ?_ Try.underlying36 rfl twoInfo rfl ?_); exact rfl; exact (K2.out)))
  (with_reducible refine (hadd _).mono ?_)
  rintro e w2 ⟨rfl, hb2⟩
  have k0 := K0.out.trans (hb2.mono K0.out.size)
  have k1 := (hb2.block _ (lt_of_heap K1.out)).trans K1.out
  have k2 := (hb2.block _ (lt_of_heap K2.out)).trans K2.out
  clear K0 K1 K2 hb2
  obtain ⟨X, hX⟩ : ∃ X, X = w2.heap.size := ⟨_, rfl⟩
  have k3 : ((w2.alloc (.cells (cells2 0) 36)).setRow X (cells2 s)).heap[X]? = some (.cells (cells2 s) 36 (0, 0)) := by
    rw [hX, setRow_alloc_at _ _ _ _ _ rfl]; exact heap_alloc_at _ _ _ rfl
  have k4 : Below w.heap.size w ((w2.alloc (.cells (cells2 0) 36)).setRow X (cells2 s)) := below_setRow (k0.alloc k0.size _) (by rw [hX]; exact k0.size) _
  have k5 : ((w2.alloc (.cells (cells2 0) 36)).setRow X (cells2 s)).heap[w.heap.size]? = some (.cells (cells2 x) 36 (0, 0)) := by
    rw [setRow_other _ _ _ _ (by have := lt_of_heap k1; omega), heap_alloc_past _ _ _ (lt_of_heap k1)]; exact k1
  have k6 : ((w2.alloc (.cells (cells2 0) 36)).setRow X (cells2 s)).heap[w.heap.size + 1]? = some (.cells (cells2 y) 36 (0, 0)) := by
    rw [setRow_other _ _ _ _ (by have := lt_of_heap k2; omega), heap_alloc_past _ _ _ (lt_of_heap k2)]; exact k2
  have K3 := Lib.hid k3
  have K4 := Lib.hid k4
  have K5 := Lib.hid k5
  have K6 := Lib.hid k6
  have KX : Hid (w.heap.size + 2 ≤ X) := by have := lt_of_heap k2; show w.heap.size + 2 ≤ X; omega
  have HX := Lib.hid hX
  clear k0 k1 k2 k3 k4 k5 k6 hX
  have hX := HX.out
  subst hX
  go_wp2_with (first | ((with_reducible refine wpList_alloc_as rfl _ rfl _ (twoZero _) ?_); (try simp only [World.size_alloc])) | ((with_reducible refine wpList_store_rowAs rfl 36 _ _ rfl (w2.heap.size) (cells2 s) ?_ ?_ 36 (cells2 0) 2 ?_ twoInfo rfl rfl (cells2_one _) ?_); exact rfl; exact rfl; exact (heap_alloc_at _ _ _ rfl)))
  have hst : Stab (fun w' => Below w.heap.size w w' ∧ w'.heap[w.heap.size]? = some (.cells (cells2 x) 36 (0, 0)) ∧ w'.heap[w.heap.size + 1]? = some (.cells (cells2 y) 36 (0, 0)) ∧ w'.heap[w2.heap.size]? = some (.cells (cells2 s) 36 (0, 0))) :=
    stab_and (stab_below (Nat.le_refl _)) (stab_and (stab_heap _ _) (stab_and (stab_heap _ _) (stab_heap _ _)))
  refine wp_region_E mixed [9] hst ⟨below_drew K4.out, K5.out, K6.out, K3.out⟩ ?_
  refine wpAnyE_take 0 (v := .agg (cells2 x)) rfl (by kernel_rfl) (by kernel_rfl) (by kernel_rfl) (fun _ _ _ h => h) hst (EffB.run rfl rfl (fun wd hS => ?_)) (.inl (by kernel_rfl)) ?_
  · exact wp_load_row 36 _ rfl w.heap.size rfl 36 (cells2 x) (0, 0) _ hS.2.1 Try.underlying36 rfl (cells2_info x) ⟨rfl, Below.refl _ _⟩
  simp only [act_norm]
  refine wpAnyE_take 1 (v := .agg (Bits.num x)) rfl (by kernel_rfl) (by kernel_rfl) (by kernel_rfl) (fun _ _ _ h => h) hst (EffB.run rfl rfl (fun wd hS => ?_)) (.inl (by kernel_rfl)) ?_
  · (go_wp2_with fail; (with_reducible refine (hnx wd).mono ?_); rintro e w'' ⟨rfl, hb⟩; exact ⟨rfl, hb⟩)
  simp only [act_norm]
  refine wpAnyE_take 2 (v := .agg (cells2 y)) rfl (by kernel_rfl) (by kernel_rfl) (by kernel_rfl) (fun _ _ _ h => h) hst (EffB.run rfl rfl (fun wd hS => ?_)) (.inl (by kernel_rfl)) ?_
  · exact wp_load_row 36 _ rfl (w.heap.size + 1) rfl 36 (cells2 y) (0, 0) _ hS.2.2.1 Try.underlying36 rfl (cells2_info y) ⟨rfl, Below.refl _ _⟩
  simp only [act_norm]
  refine wpAnyE_take 3 (v := .agg (Bits.num y)) rfl (by kernel_rfl) (by kernel_rfl) (by kernel_rfl) (fun _ _ _ h => h) hst (EffB.run rfl rfl (fun wd hS => ?_)) (.inl (by kernel_rfl)) ?_
  · (go_wp2_with fail; (with_reducible refine (hny wd).mono ?_); rintro e w'' ⟨rfl, hb⟩; exact ⟨rfl, hb⟩)
  simp only [act_norm]
  refine wpAnyE_take 4 (v := .tuple #[.agg (Bits.num s), .bool f]) rfl (by kernel_rfl) (by kernel_rfl) (by kernel_rfl) (fun _ _ _ h => h) hst (EffB.run rfl rfl (fun wd hS => ?_)) (.inl (by kernel_rfl)) ?_
  · (go_wp2_with fail; (with_reducible refine (hradd wd).mono ?_); rintro e w'' ⟨rfl, hb⟩; exact ⟨rfl, hb⟩)
  simp only [act_norm]
  refine wpAnyE_take 5 rfl (by kernel_rfl) (by kernel_rfl) (by kernel_rfl) (fun _ _ _ h => h) hst (EffB.pure rfl (fun _ => rfl)) (.inr (EffB.pure rfl (fun _ => rfl))) ?_
  simp only [act_norm]
  refine wpAnyE_take 6 (v := .agg (Bits.num s)) rfl (by kernel_rfl) (by kernel_rfl) (by kernel_rfl) (fun _ _ _ h => h) hst (EffB.run rfl rfl (fun wd hS => ?_)) (.inr (EffB.run rfl rfl (fun wd hS => ?_))) ?_
  · (go_wp2; exact ⟨rfl, Below.refl _ _⟩)
  · (go_wp2; exact ⟨rfl, Below.refl _ _⟩)
  simp only [act_norm]
  refine wpAnyE_take 7 (v := .bool f) rfl (by kernel_rfl) (by kernel_rfl) (by kernel_rfl) (fun _ _ _ h => h) hst (EffB.run rfl rfl (fun wd hS => ?_)) (.inr (EffB.run rfl rfl (fun wd hS => ?_))) ?_
  · (go_wp2; exact ⟨rfl, Below.refl _ _⟩)
  · (go_wp2; exact ⟨rfl, Below.refl _ _⟩)
  simp only [act_norm]
  refine wpAnyE_one 8 rfl (by kernel_rfl) rfl (fun wd hS => ?_)
  refine wp_alloc_as 41 rfl (Bits.num 0) (numZero _) ?_
  refine ⟨fun w' => (Below w.heap.size w w' ∧ w'.heap[w.heap.size]? = some (.cells (cells2 x) 36 (0, 0)) ∧ w'.heap[w.heap.size + 1]? = some (.cells (cells2 y) 36 (0, 0)) ∧ w'.heap[w2.heap.size]? = some (.cells (cells2 s) 36 (0, 0))) ∧ w'.heap[wd.heap.size]? = some (.cells (Bits.num 0) 41 (0, 0)),
    ⟨hst _ _ hS (below1 _ _), heap_alloc_at _ _ _ rfl⟩, stab_and hst (stab_heap _ _), .inr (fun _ h => h.1), ?_⟩
  have hlt : w2.heap.size < wd.heap.size := lt_of_heap hS.2.2.2
  have hst' : Stab (fun w' => (Below w.heap.size w w' ∧ w'.heap[w.heap.size]? = some (.cells (cells2 x) 36 (0, 0)) ∧ w'.heap[w.heap.size + 1]? = some (.cells (cells2 y) 36 (0, 0)) ∧ w'.heap[w2.heap.size]? = some (.cells (cells2 s) 36 (0, 0))) ∧ w'.heap[wd.heap.size]? = some (.cells (Bits.num s) 41 (0, 0))) := stab_and hst (stab_heap _ _)
  have hge := K4.out.size
  clear K3 K4 K5 K6
  obtain ⟨Y, hY⟩ : ∃ Y, Y = wd.heap.size := ⟨_, rfl⟩
  rw [← hY] at hlt hst' ⊢
  have kx := lt_of_heap hS.2.1
  have ky := lt_of_heap hS.2.2.1
  rw [← hY] at kx ky
  clear hY hS
  refine wpAnyE_one 9 rfl (by kernel_rfl) rfl (fun wd hS => ?_)
  refine wp_store_row 41 _ _ rfl Y (Bits.num s) rfl rfl 41 (Bits.num 0) hS.2 (by rw [Bits.num_size]; exact numInfo) (by rw [Bits.num_size, Bits.num_size]) (num_oneCell _) ?_
  refine ⟨fun w' => (Below w.heap.size w w' ∧ w'.heap[w.heap.size]? = some (.cells (cells2 x) 36 (0, 0)) ∧ w'.heap[w.heap.size + 1]? = some (.cells (cells2 y) 36 (0, 0)) ∧ w'.heap[w2.heap.size]? = some (.cells (cells2 s) 36 (0, 0))) ∧ w'.heap[Y]? = some (.cells (Bits.num s) 41 (0, 0)),
    ⟨⟨below_setRow hS.1.1 (by omega) _, (setRow_other _ _ _ _ (by omega)).trans hS.1.2.1, (setRow_other _ _ _ _ (by omega)).trans hS.1.2.2.1, (setRow_other _ _ _ _ (by omega)).trans hS.1.2.2.2⟩, setRow_heap _ _ _ _ _ _ hS.2⟩, hst', .inl (by simp), ?_⟩
  simp only [act_norm]
  clear hst
  have hst := hst'
  refine wpAnyE_take 10 rfl (by kernel_rfl) (by kernel_rfl) (by kernel_rfl) (fun _ _ _ h => h) hst (EffB.pure rfl (fun _ => rfl)) (.inr (EffB.pure rfl (fun _ => rfl))) ?_
  simp only [act_norm]
  clear hS
  refine wpAnyE_done (by kernel_rfl) (fun wd hS => ?_) _
  have HW := Lib.hid hS
  clear hS
  go_wp2_with fail
  refine wp_region_E mixed [28] hst ⟨⟨below_drew HW.out.1.1, HW.out.1.2⟩, HW.out.2⟩ ?_
  refine wpAnyE_take 0 rfl (by kernel_rfl) (by kernel_rfl) (by kernel_rfl) (fun _ _ _ h => h) hst (EffB.pure rfl (fun _ => rfl)) (.inr (EffB.pure rfl (fun _ => rfl))) ?_
  simp only [act_norm]
  refine wpAnyE_take 1 rfl (by kernel_rfl) (by kernel_rfl) (by kernel_rfl) (fun _ _ _ h => h) hst (EffB.pure rfl (fun _ => rfl)) (.inr (EffB.pure rfl (fun _ => rfl))) ?_
  simp only [act_norm]
  refine wpAnyE_take 2 (v := .agg (cells2 m)) rfl (by kernel_rfl) (by kernel_rfl) (by kernel_rfl) (fun _ _ _ h => h) hst (EffB.run rfl rfl (fun wd hS => ?_)) (.inl (by kernel_rfl)) ?_
  · (go_wp2_with fail; (with_reducible refine (hmul wd).mono ?_); rintro e w'' ⟨rfl, hb⟩; exact ⟨rfl, hb⟩)
  simp only [act_norm]
  refine wpAnyE_take 3 rfl (by kernel_rfl) (by kernel_rfl) (by kernel_rfl) (fun _ _ _ h => h) hst (EffB.pure rfl (fun _ => rfl)) (.inr (EffB.pure rfl (fun _ => rfl))) ?_
  simp only [act_norm]
  refine wpAnyE_take 4 rfl (by kernel_rfl) (by kernel_rfl) (by kernel_rfl) (fun _ _ _ h => h) hst (EffB.pure rfl (fun _ => rfl)) (.inr (EffB.pure rfl (fun _ => rfl))) ?_
  simp only [act_norm]
  refine wpAnyE_take 5 (v := .agg (Bits.num m)) rfl (by kernel_rfl) (by kernel_rfl) (by kernel_rfl) (fun _ _ _ h => h) hst (EffB.run rfl rfl (fun wd hS => ?_)) (.inl (by kernel_rfl)) ?_
  · (go_wp2_with fail; (with_reducible refine (hrmul wd).mono ?_); rintro e w'' ⟨rfl, hb⟩; exact ⟨rfl, hb⟩)
  simp only [act_norm]
  refine wpAnyE_take 6 (v := .bool true) rfl (by kernel_rfl) (by kernel_rfl) (by kernel_rfl) (fun _ _ _ h => h) hst (EffB.run rfl rfl (fun wd hS => ?_)) (.inl (by kernel_rfl)) ?_
  · (go_wp2_with fail; (with_reducible refine (hisM wd).mono ?_); rintro e w'' ⟨rfl, hb⟩; exact ⟨rfl, hb⟩)
  simp only [act_norm]
  refine wpAnyE_take 7 rfl (by kernel_rfl) (by kernel_rfl) (by kernel_rfl) (fun _ _ _ h => h) hst (EffB.pure rfl (fun _ => rfl)) (.inr (EffB.pure rfl (fun _ => rfl))) ?_
  simp only [act_norm]
  refine wpAnyE_take 8 rfl (by kernel_rfl) (by kernel_rfl) (by kernel_rfl) (fun _ _ _ h => h) hst (EffB.pure rfl (fun _ => rfl)) (.inr (EffB.pure rfl (fun _ => rfl))) ?_
  simp only [act_norm]
  refine wpAnyE_take 9 rfl (by kernel_rfl) (by kernel_rfl) (by kernel_rfl) (fun _ _ _ h => h) hst (EffB.pure rfl (fun _ => rfl)) (.inr (EffB.pure rfl (fun _ => rfl))) ?_
  simp only [act_norm]
  refine wpAnyE_take 10 (v := .bool true) rfl (by kernel_rfl) (by kernel_rfl) (by kernel_rfl) (fun _ _ _ h => h) hst (EffB.run rfl rfl (fun wd hS => ?_)) (.inr (EffB.run rfl rfl (fun wd hS => ?_))) ?_
  · (go_wp2; exact ⟨rfl, Below.refl _ _⟩)
  · (go_wp2; exact ⟨rfl, Below.refl _ _⟩)
  simp only [act_norm]
  refine wpAnyE_take 11 (v := .bool true) rfl (by kernel_rfl) (by kernel_rfl) (by kernel_rfl) (fun _ _ _ h => h) hst (EffB.run rfl rfl (fun wd hS => ?_)) (.inr (EffB.run rfl rfl (fun wd hS => ?_))) ?_
  · (go_wp2; exact ⟨rfl, Below.refl _ _⟩)
  · (go_wp2; exact ⟨rfl, Below.refl _ _⟩)
  simp only [act_norm]
  refine wpAnyE_take 12 rfl (by kernel_rfl) (by kernel_rfl) (by kernel_rfl) (fun _ _ _ h => h) hst (EffB.pure rfl (fun _ => rfl)) (.inr (EffB.pure rfl (fun _ => rfl))) ?_
  simp only [act_norm]
  refine wpAnyE_take 13 (v := .agg (cells2 s)) rfl (by kernel_rfl) (by kernel_rfl) (by kernel_rfl) (fun _ _ _ h => h) hst (EffB.run rfl rfl (fun wd hS => ?_)) (.inl (by kernel_rfl)) ?_
  · exact wp_load_row 36 _ rfl w2.heap.size rfl 36 (cells2 s) (0, 0) _ hS.1.2.2.2 Try.underlying36 rfl (cells2_info s) ⟨rfl, Below.refl _ _⟩
  simp only [act_norm]
  refine wpAnyE_take 14 (v := .agg (Bits.num s)) rfl (by kernel_rfl) (by kernel_rfl) (by kernel_rfl) (fun _ _ _ h => h) hst (EffB.run rfl rfl (fun wd hS => ?_)) (.inl (by kernel_rfl)) ?_
  · exact wp_load_row 41 _ rfl Y rfl 41 (Bits.num s) (0, 0) _ hS.2 Try.underlying41 rfl (by rw [Bits.num_size]; exact numInfo) ⟨rfl, Below.refl _ _⟩
  simp only [act_norm]
  refine wpAnyE_take 15 (v := .bool true) rfl (by kernel_rfl) (by kernel_rfl) (by kernel_rfl) (fun _ _ _ h => h) hst (EffB.run rfl rfl (fun wd hS => ?_)) (.inl (by kernel_rfl)) ?_
  · (go_wp2_with fail; (with_reducible refine (hisS wd).mono ?_); rintro e w'' ⟨rfl, hb⟩; exact ⟨rfl, hb⟩)
  simp only [act_norm]
  refine wpAnyE_take 16 (v := .bool true) rfl (by kernel_rfl) (by kernel_rfl) (by kernel_rfl) (fun _ _ _ h => h) hst (EffB.run rfl rfl (fun wd hS => ?_)) (.inr (EffB.run rfl rfl (fun wd hS => ?_))) ?_
  · (go_wp2; exact ⟨rfl, Below.refl _ _⟩)
  · (go_wp2; exact ⟨rfl, Below.refl _ _⟩)
  simp only [act_norm]
  refine wpAnyE_take 17 rfl (by kernel_rfl) (by kernel_rfl) (by kernel_rfl) (fun _ _ _ h => h) hst (EffB.pure rfl (fun _ => rfl)) (.inr (EffB.pure rfl (fun _ => rfl))) ?_
  simp only [act_norm]
  refine wpAnyE_take 18 (v := .agg (cells2 x)) rfl (by kernel_rfl) (by kernel_rfl) (by kernel_rfl) (fun _ _ _ h => h) hst (EffB.run rfl rfl (fun wd hS => ?_)) (.inl (by kernel_rfl)) ?_
  · exact wp_load_row 36 _ rfl w.heap.size rfl 36 (cells2 x) (0, 0) _ hS.1.2.1 Try.underlying36 rfl (cells2_info x) ⟨rfl, Below.refl _ _⟩
  simp only [act_norm]
  refine wpAnyE_take 19 (v := .agg (cells2 y)) rfl (by kernel_rfl) (by kernel_rfl) (by kernel_rfl) (fun _ _ _ h => h) hst (EffB.run rfl rfl (fun wd hS => ?_)) (.inl (by kernel_rfl)) ?_
  · exact wp_load_row 36 _ rfl (w.heap.size + 1) rfl 36 (cells2 y) (0, 0) _ hS.1.2.2.1 Try.underlying36 rfl (cells2_info y) ⟨rfl, Below.refl _ _⟩
  simp only [act_norm]
  refine wpAnyE_take 20 (v := .int .i64 c) rfl (by kernel_rfl) (by kernel_rfl) (by kernel_rfl) (fun _ _ _ h => h) hst (EffB.run rfl rfl (fun wd hS => ?_)) (.inl (by kernel_rfl)) ?_
  · (go_wp2_with fail; (with_reducible refine (hcmp wd).mono ?_); rintro e w'' ⟨rfl, hb⟩; exact ⟨rfl, hb⟩)
  simp only [act_norm]
  refine wpAnyE_take 21 (v := .agg (cells2 x)) rfl (by kernel_rfl) (by kernel_rfl) (by kernel_rfl) (fun _ _ _ h => h) hst (EffB.run rfl rfl (fun wd hS => ?_)) (.inl (by kernel_rfl)) ?_
  · exact wp_load_row 36 _ rfl w.heap.size rfl 36 (cells2 x) (0, 0) _ hS.1.2.1 Try.underlying36 rfl (cells2_info x) ⟨rfl, Below.refl _ _⟩
  simp only [act_norm]
  refine wpAnyE_take 22 (v := .agg (Bits.num x)) rfl (by kernel_rfl) (by kernel_rfl) (by kernel_rfl) (fun _ _ _ h => h) hst (EffB.run rfl rfl (fun wd hS => ?_)) (.inl (by kernel_rfl)) ?_
  · (go_wp2_with fail; (with_reducible refine (hnx wd).mono ?_); rintro e w'' ⟨rfl, hb⟩; exact ⟨rfl, hb⟩)
  simp only [act_norm]
  refine wpAnyE_take 23 (v := .agg (cells2 y)) rfl (by kernel_rfl) (by kernel_rfl) (by kernel_rfl) (fun _ _ _ h => h) hst (EffB.run rfl rfl (fun wd hS => ?_)) (.inl (by kernel_rfl)) ?_
  · exact wp_load_row 36 _ rfl (w.heap.size + 1) rfl 36 (cells2 y) (0, 0) _ hS.1.2.2.1 Try.underlying36 rfl (cells2_info y) ⟨rfl, Below.refl _ _⟩
  simp only [act_norm]
  refine wpAnyE_take 24 (v := .agg (Bits.num y)) rfl (by kernel_rfl) (by kernel_rfl) (by kernel_rfl) (fun _ _ _ h => h) hst (EffB.run rfl rfl (fun wd hS => ?_)) (.inl (by kernel_rfl)) ?_
  · (go_wp2_with fail; (with_reducible refine (hny wd).mono ?_); rintro e w'' ⟨rfl, hb⟩; exact ⟨rfl, hb⟩)
  simp only [act_norm]
  refine wpAnyE_take 25 (v := .int .i64 c) rfl (by kernel_rfl) (by kernel_rfl) (by kernel_rfl) (fun _ _ _ h => h) hst (EffB.run rfl rfl (fun wd hS => ?_)) (.inl (by kernel_rfl)) ?_
  · (go_wp2_with fail; (with_reducible refine (hrcmp wd).mono ?_); rintro e w'' ⟨rfl, hb⟩; exact ⟨rfl, hb⟩)
  simp only [act_norm]
  refine wpAnyE_take 26 (v := .bool true) rfl (by kernel_rfl) (by kernel_rfl) (by kernel_rfl) (fun _ _ _ h => h) hst (EffB.run rfl rfl (fun wd hS => ?_)) (.inr (EffB.run rfl rfl (fun wd hS => ?_))) ?_
  · (go_wp2; exact ⟨rfl, Below.refl _ _⟩)
  · (go_wp2; exact ⟨rfl, Below.refl _ _⟩)
  simp only [act_norm]
  refine wpAnyE_take 27 (v := .bool true) rfl (by kernel_rfl) (by kernel_rfl) (by kernel_rfl) (fun _ _ _ h => h) hst (EffB.run rfl rfl (fun wd hS => ?_)) (.inr (EffB.run rfl rfl (fun wd hS => ?_))) ?_
  · (go_wp2; exact ⟨rfl, Below.refl _ _⟩)
  · (go_wp2; exact ⟨rfl, Below.refl _ _⟩)
  simp only [act_norm]
  refine wpAnyE_take 28 (v := .bool true) rfl (by kernel_rfl) (by kernel_rfl) (by kernel_rfl) (fun _ _ _ h => h) hst (EffB.run rfl rfl (fun wd hS => ?_)) (.inr (EffB.run rfl rfl (fun wd hS => ?_))) ?_
  · (go_wp2; exact ⟨rfl, Below.refl _ _⟩)
  · (go_wp2; exact ⟨rfl, Below.refl _ _⟩)
  simp only [act_norm]
  refine wpAnyE_done (by kernel_rfl) (fun wd hS => ?_) _
  go_wp2
  go_ret
  exact ⟨rfl, hS.1.1⟩
end Go.Proofs.Ythlcjigpccmbmaa
