/- Layer 9: window by window, the law. -/
import Derived.Test.YtdchooggindihaaLaws09
import Derived.Test.YtdchooggindihaaStat7
namespace Go.Proofs.Ytdchooggindihaa
open Go.ChangeShapes Go.WideShapes Go.ChangeAt Go.RowKit

set_option maxHeartbeats 4000000 in
set_option maxRecDepth 100000 in
theorem each_neg (p : Option Addr) (cap len : Nat) (l : List Samp) (to width : Int) (n : Int) (N : Nat) (hneg : n ≤ 0) (hN : N = 0) (hni : I64 n) (h300 : ¬ 300 < n) (h256 : ¬ 256 < n) (hz : ((N : Int) != 0) = false) (hNb : N ≤ 256) (h20 : ¬ 20 < len) (hwi : I64 width) (hlen : len = l.length)
    (each : ∀ W : World, Samps W p l → Calls Try.prog 30 #[.slice p len cap, .int .i64 to, .int .i64 width, .int .i64 n] W (RetOwns W 5 N (statVals (Win.stats l to width N))))
    (frm : ∀ (k : Nat) (W : World), Calls Try.prog 15 #[.int .i64 (Win.at to width k), .int .i64 width] W fun e w' => e = .returned (.int .i64 (Win.from (Win.at to width k) width)) ∧ W = w')
    (cut : ∀ (k : Nat) (W : World), Samps W p l → Calls Try.prog 18 #[.slice p len cap, .int .i64 (Win.from (Win.at to width k) width), .int .i64 (Win.at to width k)] W (RetOwns W 2 (Samp.cut (Win.from (Win.at to width k) width) (Win.at to width k) l).length (sampVals (Samp.cut (Win.from (Win.at to width k) width) (Win.at to width k) l))))
    (is : ∀ (k : Nat) (q : Option Addr) (c : Nat) (W : World), Samps W q (Samp.cut (Win.from (Win.at to width k) width) (Win.at to width k) l) → Calls Try.prog 23 #[.slice q (Samp.cut (Win.from (Win.at to width k) width) (Win.at to width k) l).length c, .agg #[.int .i64 (Win.stat l to width k).count, .int .i64 (Win.stat l to width k).sum, .int .i64 (Win.stat l to width k).least, .int .i64 (Win.stat l to width k).most, .int .i64 (Win.stat l to width k).mean]] W fun e w' => e = .returned (.bool true) ∧ Below W.heap.size W w')
    (sub : ∀ (k : Nat) (W : World), Calls Try.prog 31 #[.int .i64 (Win.at to width k), .int .i64 (max width 0)] W fun e w' => e = .returned (.int .i64 (Win.at to width (k + 1))) ∧ W = w')
    (hti : ∀ k, I64 (Win.at to width k)) (w : World) (hs : Samps w p l) :
    Calls Try.prog 6 #[.slice p len cap, .int .i64 to, .int .i64 width, .int .i64 n] w fun e w' => e = .returned (.bool true) ∧ Below w.heap.size w w' := by
  have hgt := fun k h => Win.stats_get l to width N k h
  have hsl := Win.stats_len l to width N
  obtain ⟨L, eL⟩ : ∃ L, L = Win.stats l to width N := ⟨_, rfl⟩
  simp only [← eL] at each hgt hsl
  have EA := Lib.hid each
  have FR := Lib.hid frm
  have CU := Lib.hid cut
  have IS := Lib.hid is
  have SU := Lib.hid sub
  have TI := Lib.hid hti
  have HS := Lib.hid hs
  have GT := Lib.hid hgt
  have SL := Lib.hid hsl
  obtain ⟨wi1, wi2⟩ := hwi
  clear hN
  clear each frm cut is sub hti hs hlen hgt hsl eL
  go_enter Try.func6, Try.ntmps6
  go_wp2_with fail
  (with_reducible refine (awake09 _).mono ?_)
  rintro e w1 ⟨rfl, hb1⟩
  have HB := Lib.hid hb1
  clear hb1
  go_wp2_with fail
  (with_reducible refine (EA.out _ (HS.out.below HB.out)).mono ?_)
  rintro e w3 ⟨u, rfl, hO, hb3⟩
  have HB3 := Lib.hid (HB.out.trans (hb3.mono HB.out.size))
  rw [← SL.out] at hO
  obtain ⟨q, c, rfl, _, hq⟩ := stats_of_owns hO
  rw [SL.out]
  have HQ := Lib.hid hq
  have HS3 := Lib.hid ((HS.out.below HB3.out))
  clear hO hb3 hq HB EA HS
  go_wp2
  go_loopw [10, 36] (fun t i wr => ∃ k : Nat, k ≤ N ∧ i = .int .i64 k ∧ t = .int .i64 (Win.at to width k) ∧ Below w3.heap.size w3 wr) (fun _ i _ => N - (intOf i).toNat)
  case atStart => exact ⟨0, by omega, rfl, rfl, Below.refl _ _⟩
  case round =>
    obtain ⟨k, hk, rfl, rfl, hB⟩ := hrel
    by_cases hlt : k < N
    · obtain ⟨b, off, rfl, hbw, g0, g1, g2, g3, g4⟩ := HQ.out.cells k (by have := SL.out; omega)
      rw [← hB.cell (p := ⟨b, _, none⟩) hbw, GT.out k hlt] at g0 g1 g2 g3 g4
      have frm := FR.out k
      have cut := CU.out k
      have is := IS.out k
      have sub := SU.out k
      have hti := TI.out k
      obtain ⟨s, es⟩ : ∃ s, s = Win.stat l to width k := ⟨_, rfl⟩
      obtain ⟨t, et⟩ : ∃ s, s = Win.at to width k := ⟨_, rfl⟩
      obtain ⟨t2, et2⟩ : ∃ s, s = Win.at to width (k + 1) := ⟨_, rfl⟩
      simp only [← es, ← et, ← et2] at g0 g1 g2 g3 g4 frm cut is sub hti ⊢
      obtain ⟨f, ef⟩ : ∃ f, f = Win.from t width := ⟨_, rfl⟩
      simp only [← ef] at frm cut is
      obtain ⟨C, eC⟩ : ∃ C, C = Samp.cut f t l := ⟨_, rfl⟩
      simp only [← eC] at cut is
      have CT := Lib.hid cut
      have IS := Lib.hid is
      have SU := Lib.hid sub
      have FR := Lib.hid frm
      have HB := Lib.hid hB
      have T2 := Lib.hid et2
      have k1 : (wr.alloc (.cells #[.int .i64 s.count, .int .i64 s.sum, .int .i64 s.least, .int .i64 s.most, .int .i64 s.mean] 32)).heap[wr.heap.size]? = some (.cells #[.int .i64 s.count, .int .i64 s.sum, .int .i64 s.least, .int .i64 s.most, .int .i64 s.mean] 32 (0, 0)) := heap_alloc_at _ _ _ rfl
      have hb1 := hB.alloc hB.size (.cells #[.int .i64 s.count, .int .i64 s.sum, .int .i64 s.least, .int .i64 s.most, .int .i64 s.mean] 32)
      have K1 := Lib.hid k1
      have HB1 := Lib.hid hb1
      have HS4 := Lib.hid (HS3.out.below hb1)
      obtain ⟨i1, i2⟩ := hti
      clear cut is sub frm hB es et et2 ef eC k1 hb1
      go_wp2_with ((with_reducible refine wpList_store_rowAs rfl 32 _ _ rfl (wr.heap.size) #[.int .i64 s.count, .int .i64 s.sum, .int .i64 s.least, .int .i64 s.most, .int .i64 s.mean] ?_ ?_ 32 #[.int .i64 0, .int .i64 0, .int .i64 0, .int .i64 0, .int .i64 0] 5 ?_ (by kernel_rfl) rfl rfl (by simp [Value.oneCell']) ?_); exact rfl; exact rfl; exact (heap_alloc_at _ _ _ rfl); (first | rw [row_1_0] | rw [row_2_0] | rw [row_2_1] | rw [row_3_0] | rw [row_3_1] | rw [row_3_2] | rw [row_4_0] | rw [row_4_1] | rw [row_4_2] | rw [row_4_3] | rw [row_5_0] | rw [row_5_1] | rw [row_5_2] | rw [row_5_3] | rw [row_5_4] | rw [row_6_0] | rw [row_6_1] | rw [row_6_2] | rw [row_6_3] | rw [row_6_4] | rw [row_6_5] | simp only [setRow_alloc_past, setRow_alloc_at, World.size_alloc, Nat.add_assoc, Nat.reduceAdd, Nat.lt_add_right_iff_pos, Nat.add_lt_add_iff_left, Nat.reduceLT, Nat.zero_lt_succ, Nat.lt_add_one]))
      obtain ⟨X, hX⟩ : ∃ X, X = wr.heap.size := ⟨_, rfl⟩
      rw [← hX] at K1 ⊢
      clear hX g0 g1 g2 g3 g4
      have hst : Stab (fun w' => (Below w3.heap.size w3 w' ∧ w'.heap[X]? = some (.cells #[.int .i64 s.count, .int .i64 s.sum, .int .i64 s.least, .int .i64 s.most, .int .i64 s.mean] 32 (0, 0))) ∧ Samps w' p l) :=
        stab_and (stab_and (stab_below (Nat.le_refl _)) (stab_heap _ _)) (fun _ _ h hb => h.below hb)
      refine wp_region_E mixed [] hst ⟨⟨below_drew HB1.out, K1.out⟩, HS4.out⟩ ?_
      refine wpAnyE_take 0 rfl (by kernel_rfl) (by kernel_rfl) (by kernel_rfl) (fun _ _ _ h => h) hst (EffB.pure rfl (fun _ => rfl)) (.inr (EffB.pure rfl (fun _ => rfl))) ?_
      simp only [act_norm]
      refine wpAnyE_take 1 rfl (by kernel_rfl) (by kernel_rfl) (by kernel_rfl) (fun _ _ _ h => h) hst (EffB.pure rfl (fun _ => rfl)) (.inr (EffB.pure rfl (fun _ => rfl))) ?_
      simp only [act_norm]
      refine wpAnyE_take 2 rfl (by kernel_rfl) (by kernel_rfl) (by kernel_rfl) (fun _ _ _ h => h) hst (EffB.pure rfl (fun _ => rfl)) (.inr (EffB.pure rfl (fun _ => rfl))) ?_
      simp only [act_norm]
      refine wpAnyE_take 3 (v := .int .i64 f) rfl (by kernel_rfl) (by kernel_rfl) (by kernel_rfl) (fun _ _ _ h => h) hst (EffB.run rfl rfl (fun wd hS => ?_)) (.inl (by kernel_rfl)) ?_
      · (go_wp2_with fail; (with_reducible refine (FR.out wd).mono ?_); rintro e w'' ⟨rfl, rfl⟩; exact ⟨rfl, Below.refl _ _⟩)
      simp only [act_norm]
      refine wpAnyE_take 4 rfl (by kernel_rfl) (by kernel_rfl) (by kernel_rfl) (fun _ _ _ h => h) hst (EffB.pure rfl (fun _ => rfl)) (.inr (EffB.pure rfl (fun _ => rfl))) ?_
      simp only [act_norm]
      refine wpAnyE_take 6 (v := .agg #[.int .i64 s.count, .int .i64 s.sum, .int .i64 s.least, .int .i64 s.most, .int .i64 s.mean]) rfl (by kernel_rfl) (by kernel_rfl) (by kernel_rfl) (fun _ _ _ h => h) hst (EffB.run rfl rfl (fun wd hS => ?_)) (.inl (by kernel_rfl)) ?_
      · exact wp_load_row 32 _ rfl X rfl 32 #[.int .i64 s.count, .int .i64 s.sum, .int .i64 s.least, .int .i64 s.most, .int .i64 s.mean] (0, 0) _ hS.1.2 Try.underlying32 rfl statInfo ⟨rfl, Below.refl _ _⟩
      simp only [act_norm]
      refine wpAnyE_one 5 rfl (by kernel_rfl) rfl (fun wd hS => ?_)
      go_wp2_with fail
      (with_reducible refine (CT.out _ hS.2).mono ?_)
      rintro e w4 ⟨u, rfl, hO, hb4⟩
      obtain ⟨q1, c1, rfl, _, hq1⟩ := samps_of_owns hO
      have hst2 : Stab (fun w' => ((Below w3.heap.size w3 w' ∧ w'.heap[X]? = some (.cells #[.int .i64 s.count, .int .i64 s.sum, .int .i64 s.least, .int .i64 s.most, .int .i64 s.mean] 32 (0, 0))) ∧ Samps w' p l) ∧ Samps w' q1 C) :=
        stab_and hst (fun _ _ h hb => h.below hb)
      refine ⟨fun w' => ((Below w3.heap.size w3 w' ∧ w'.heap[X]? = some (.cells #[.int .i64 s.count, .int .i64 s.sum, .int .i64 s.least, .int .i64 s.most, .int .i64 s.mean] 32 (0, 0))) ∧ Samps w' p l) ∧ Samps w' q1 C, ⟨hst _ _ hS hb4, hq1⟩, hst2, (by first | exact fun _ h => h.1 | exact .inr fun _ h => h.1), ?_⟩
      try simp only [act_norm]
      clear hO hb4 hS hst hq1
      have hst := hst2
      refine wpAnyE_take 7 (v := .bool true) rfl (by kernel_rfl) (by kernel_rfl) (by kernel_rfl) (fun _ _ _ h => h) hst (EffB.run rfl rfl (fun wd hS => ?_)) (.inl (by kernel_rfl)) ?_
      · (go_wp2_with fail; (with_reducible refine (IS.out _ _ wd hS.2).mono ?_); rintro e w'' ⟨rfl, hb⟩; exact ⟨rfl, hb⟩)
      simp only [act_norm]
      refine wpAnyE_take 8 (v := .bool false) rfl (by kernel_rfl) (by kernel_rfl) (by kernel_rfl) (fun _ _ _ h => h) hst (EffB.run rfl rfl (fun wd hS => ?_)) (.inr (EffB.run rfl rfl (fun wd hS => ?_))) ?_
      · (go_wp2; exact ⟨rfl, Below.refl _ _⟩)
      · (go_wp2; exact ⟨rfl, Below.refl _ _⟩)
      simp only [act_norm]
      refine wpAnyE_done (by kernel_rfl) (fun wd hS => ?_) _
      have HSS := Lib.hid hS.1.1.1
      clear hS hst hst2
      by_cases hw0 : width < 0
      · rw [show max width 0 = 0 by omega] at SU
        go_wp2_with ((with_reducible refine (SU.out _).mono ?_); rintro e wc ⟨rfl, rfl⟩)
        exact ⟨⟨k + 1, by omega, by go_num, by rw [T2.out], HSS.out⟩, by simp [intOf]; omega⟩
      · rw [show max width 0 = width by omega] at SU
        go_wp2_with ((with_reducible refine (SU.out _).mono ?_); rintro e wc ⟨rfl, rfl⟩)
        exact ⟨⟨k + 1, by omega, by go_num, by rw [T2.out], HSS.out⟩, by simp [intOf]; omega⟩
    · obtain rfl : k = N := by omega
      go_wp2
      go_ret
      exact ⟨rfl, HB3.out.trans (hB.mono HB3.out.size)⟩

set_option maxHeartbeats 4000000 in
set_option maxRecDepth 100000 in
theorem each_mid (p : Option Addr) (cap len : Nat) (l : List Samp) (to width : Int) (n : Int) (N : Nat) (hn0 : 0 < n) (hN : (N : Int) = n) (hni : I64 n) (h300 : ¬ 300 < n) (h256 : ¬ 256 < n) (hz : ((N : Int) != n) = false) (hNb : N ≤ 256) (h20 : ¬ 20 < len) (hwi : I64 width) (hlen : len = l.length)
    (each : ∀ W : World, Samps W p l → Calls Try.prog 30 #[.slice p len cap, .int .i64 to, .int .i64 width, .int .i64 n] W (RetOwns W 5 N (statVals (Win.stats l to width N))))
    (frm : ∀ (k : Nat) (W : World), Calls Try.prog 15 #[.int .i64 (Win.at to width k), .int .i64 width] W fun e w' => e = .returned (.int .i64 (Win.from (Win.at to width k) width)) ∧ W = w')
    (cut : ∀ (k : Nat) (W : World), Samps W p l → Calls Try.prog 18 #[.slice p len cap, .int .i64 (Win.from (Win.at to width k) width), .int .i64 (Win.at to width k)] W (RetOwns W 2 (Samp.cut (Win.from (Win.at to width k) width) (Win.at to width k) l).length (sampVals (Samp.cut (Win.from (Win.at to width k) width) (Win.at to width k) l))))
    (is : ∀ (k : Nat) (q : Option Addr) (c : Nat) (W : World), Samps W q (Samp.cut (Win.from (Win.at to width k) width) (Win.at to width k) l) → Calls Try.prog 23 #[.slice q (Samp.cut (Win.from (Win.at to width k) width) (Win.at to width k) l).length c, .agg #[.int .i64 (Win.stat l to width k).count, .int .i64 (Win.stat l to width k).sum, .int .i64 (Win.stat l to width k).least, .int .i64 (Win.stat l to width k).most, .int .i64 (Win.stat l to width k).mean]] W fun e w' => e = .returned (.bool true) ∧ Below W.heap.size W w')
    (sub : ∀ (k : Nat) (W : World), Calls Try.prog 31 #[.int .i64 (Win.at to width k), .int .i64 (max width 0)] W fun e w' => e = .returned (.int .i64 (Win.at to width (k + 1))) ∧ W = w')
    (hti : ∀ k, I64 (Win.at to width k)) (w : World) (hs : Samps w p l) :
    Calls Try.prog 6 #[.slice p len cap, .int .i64 to, .int .i64 width, .int .i64 n] w fun e w' => e = .returned (.bool true) ∧ Below w.heap.size w w' := by
  have hgt := fun k h => Win.stats_get l to width N k h
  have hsl := Win.stats_len l to width N
  obtain ⟨L, eL⟩ : ∃ L, L = Win.stats l to width N := ⟨_, rfl⟩
  simp only [← eL] at each hgt hsl
  have EA := Lib.hid each
  have FR := Lib.hid frm
  have CU := Lib.hid cut
  have IS := Lib.hid is
  have SU := Lib.hid sub
  have TI := Lib.hid hti
  have HS := Lib.hid hs
  have GT := Lib.hid hgt
  have SL := Lib.hid hsl
  obtain ⟨wi1, wi2⟩ := hwi
  clear hN
  clear each frm cut is sub hti hs hlen hgt hsl eL
  go_enter Try.func6, Try.ntmps6
  go_wp2_with fail
  (with_reducible refine (awake09 _).mono ?_)
  rintro e w1 ⟨rfl, hb1⟩
  have HB := Lib.hid hb1
  clear hb1
  go_wp2_with fail
  (with_reducible refine (EA.out _ (HS.out.below HB.out)).mono ?_)
  rintro e w3 ⟨u, rfl, hO, hb3⟩
  have HB3 := Lib.hid (HB.out.trans (hb3.mono HB.out.size))
  rw [← SL.out] at hO
  obtain ⟨q, c, rfl, _, hq⟩ := stats_of_owns hO
  rw [SL.out]
  have HQ := Lib.hid hq
  have HS3 := Lib.hid ((HS.out.below HB3.out))
  clear hO hb3 hq HB EA HS
  go_wp2
  go_loopw [10, 36] (fun t i wr => ∃ k : Nat, k ≤ N ∧ i = .int .i64 k ∧ t = .int .i64 (Win.at to width k) ∧ Below w3.heap.size w3 wr) (fun _ i _ => N - (intOf i).toNat)
  case atStart => exact ⟨0, by omega, rfl, rfl, Below.refl _ _⟩
  case round =>
    obtain ⟨k, hk, rfl, rfl, hB⟩ := hrel
    by_cases hlt : k < N
    · obtain ⟨b, off, rfl, hbw, g0, g1, g2, g3, g4⟩ := HQ.out.cells k (by have := SL.out; omega)
      rw [← hB.cell (p := ⟨b, _, none⟩) hbw, GT.out k hlt] at g0 g1 g2 g3 g4
      have frm := FR.out k
      have cut := CU.out k
      have is := IS.out k
      have sub := SU.out k
      have hti := TI.out k
      obtain ⟨s, es⟩ : ∃ s, s = Win.stat l to width k := ⟨_, rfl⟩
      obtain ⟨t, et⟩ : ∃ s, s = Win.at to width k := ⟨_, rfl⟩
      obtain ⟨t2, et2⟩ : ∃ s, s = Win.at to width (k + 1) := ⟨_, rfl⟩
      simp only [← es, ← et, ← et2] at g0 g1 g2 g3 g4 frm cut is sub hti ⊢
      obtain ⟨f, ef⟩ : ∃ f, f = Win.from t width := ⟨_, rfl⟩
      simp only [← ef] at frm cut is
      obtain ⟨C, eC⟩ : ∃ C, C = Samp.cut f t l := ⟨_, rfl⟩
      simp only [← eC] at cut is
      have CT := Lib.hid cut
      have IS := Lib.hid is
      have SU := Lib.hid sub
      have FR := Lib.hid frm
      have HB := Lib.hid hB
      have T2 := Lib.hid et2
      have k1 : (wr.alloc (.cells #[.int .i64 s.count, .int .i64 s.sum, .int .i64 s.least, .int .i64 s.most, .int .i64 s.mean] 32)).heap[wr.heap.size]? = some (.cells #[.int .i64 s.count, .int .i64 s.sum, .int .i64 s.least, .int .i64 s.most, .int .i64 s.mean] 32 (0, 0)) := heap_alloc_at _ _ _ rfl
      have hb1 := hB.alloc hB.size (.cells #[.int .i64 s.count, .int .i64 s.sum, .int .i64 s.least, .int .i64 s.most, .int .i64 s.mean] 32)
      have K1 := Lib.hid k1
      have HB1 := Lib.hid hb1
      have HS4 := Lib.hid (HS3.out.below hb1)
      obtain ⟨i1, i2⟩ := hti
      clear cut is sub frm hB es et et2 ef eC k1 hb1
      go_wp2_with ((with_reducible refine wpList_store_rowAs rfl 32 _ _ rfl (wr.heap.size) #[.int .i64 s.count, .int .i64 s.sum, .int .i64 s.least, .int .i64 s.most, .int .i64 s.mean] ?_ ?_ 32 #[.int .i64 0, .int .i64 0, .int .i64 0, .int .i64 0, .int .i64 0] 5 ?_ (by kernel_rfl) rfl rfl (by simp [Value.oneCell']) ?_); exact rfl; exact rfl; exact (heap_alloc_at _ _ _ rfl); (first | rw [row_1_0] | rw [row_2_0] | rw [row_2_1] | rw [row_3_0] | rw [row_3_1] | rw [row_3_2] | rw [row_4_0] | rw [row_4_1] | rw [row_4_2] | rw [row_4_3] | rw [row_5_0] | rw [row_5_1] | rw [row_5_2] | rw [row_5_3] | rw [row_5_4] | rw [row_6_0] | rw [row_6_1] | rw [row_6_2] | rw [row_6_3] | rw [row_6_4] | rw [row_6_5] | simp only [setRow_alloc_past, setRow_alloc_at, World.size_alloc, Nat.add_assoc, Nat.reduceAdd, Nat.lt_add_right_iff_pos, Nat.add_lt_add_iff_left, Nat.reduceLT, Nat.zero_lt_succ, Nat.lt_add_one]))
      obtain ⟨X, hX⟩ : ∃ X, X = wr.heap.size := ⟨_, rfl⟩
      rw [← hX] at K1 ⊢
      clear hX g0 g1 g2 g3 g4
      have hst : Stab (fun w' => (Below w3.heap.size w3 w' ∧ w'.heap[X]? = some (.cells #[.int .i64 s.count, .int .i64 s.sum, .int .i64 s.least, .int .i64 s.most, .int .i64 s.mean] 32 (0, 0))) ∧ Samps w' p l) :=
        stab_and (stab_and (stab_below (Nat.le_refl _)) (stab_heap _ _)) (fun _ _ h hb => h.below hb)
      refine wp_region_E mixed [] hst ⟨⟨below_drew HB1.out, K1.out⟩, HS4.out⟩ ?_
      refine wpAnyE_take 0 rfl (by kernel_rfl) (by kernel_rfl) (by kernel_rfl) (fun _ _ _ h => h) hst (EffB.pure rfl (fun _ => rfl)) (.inr (EffB.pure rfl (fun _ => rfl))) ?_
      simp only [act_norm]
      refine wpAnyE_take 1 rfl (by kernel_rfl) (by kernel_rfl) (by kernel_rfl) (fun _ _ _ h => h) hst (EffB.pure rfl (fun _ => rfl)) (.inr (EffB.pure rfl (fun _ => rfl))) ?_
      simp only [act_norm]
      refine wpAnyE_take 2 rfl (by kernel_rfl) (by kernel_rfl) (by kernel_rfl) (fun _ _ _ h => h) hst (EffB.pure rfl (fun _ => rfl)) (.inr (EffB.pure rfl (fun _ => rfl))) ?_
      simp only [act_norm]
      refine wpAnyE_take 3 (v := .int .i64 f) rfl (by kernel_rfl) (by kernel_rfl) (by kernel_rfl) (fun _ _ _ h => h) hst (EffB.run rfl rfl (fun wd hS => ?_)) (.inl (by kernel_rfl)) ?_
      · (go_wp2_with fail; (with_reducible refine (FR.out wd).mono ?_); rintro e w'' ⟨rfl, rfl⟩; exact ⟨rfl, Below.refl _ _⟩)
      simp only [act_norm]
      refine wpAnyE_take 4 rfl (by kernel_rfl) (by kernel_rfl) (by kernel_rfl) (fun _ _ _ h => h) hst (EffB.pure rfl (fun _ => rfl)) (.inr (EffB.pure rfl (fun _ => rfl))) ?_
      simp only [act_norm]
      refine wpAnyE_take 6 (v := .agg #[.int .i64 s.count, .int .i64 s.sum, .int .i64 s.least, .int .i64 s.most, .int .i64 s.mean]) rfl (by kernel_rfl) (by kernel_rfl) (by kernel_rfl) (fun _ _ _ h => h) hst (EffB.run rfl rfl (fun wd hS => ?_)) (.inl (by kernel_rfl)) ?_
      · exact wp_load_row 32 _ rfl X rfl 32 #[.int .i64 s.count, .int .i64 s.sum, .int .i64 s.least, .int .i64 s.most, .int .i64 s.mean] (0, 0) _ hS.1.2 Try.underlying32 rfl statInfo ⟨rfl, Below.refl _ _⟩
      simp only [act_norm]
      refine wpAnyE_one 5 rfl (by kernel_rfl) rfl (fun wd hS => ?_)
      go_wp2_with fail
      (with_reducible refine (CT.out _ hS.2).mono ?_)
      rintro e w4 ⟨u, rfl, hO, hb4⟩
      obtain ⟨q1, c1, rfl, _, hq1⟩ := samps_of_owns hO
      have hst2 : Stab (fun w' => ((Below w3.heap.size w3 w' ∧ w'.heap[X]? = some (.cells #[.int .i64 s.count, .int .i64 s.sum, .int .i64 s.least, .int .i64 s.most, .int .i64 s.mean] 32 (0, 0))) ∧ Samps w' p l) ∧ Samps w' q1 C) :=
        stab_and hst (fun _ _ h hb => h.below hb)
      refine ⟨fun w' => ((Below w3.heap.size w3 w' ∧ w'.heap[X]? = some (.cells #[.int .i64 s.count, .int .i64 s.sum, .int .i64 s.least, .int .i64 s.most, .int .i64 s.mean] 32 (0, 0))) ∧ Samps w' p l) ∧ Samps w' q1 C, ⟨hst _ _ hS hb4, hq1⟩, hst2, (by first | exact fun _ h => h.1 | exact .inr fun _ h => h.1), ?_⟩
      try simp only [act_norm]
      clear hO hb4 hS hst hq1
      have hst := hst2
      refine wpAnyE_take 7 (v := .bool true) rfl (by kernel_rfl) (by kernel_rfl) (by kernel_rfl) (fun _ _ _ h => h) hst (EffB.run rfl rfl (fun wd hS => ?_)) (.inl (by kernel_rfl)) ?_
      · (go_wp2_with fail; (with_reducible refine (IS.out _ _ wd hS.2).mono ?_); rintro e w'' ⟨rfl, hb⟩; exact ⟨rfl, hb⟩)
      simp only [act_norm]
      refine wpAnyE_take 8 (v := .bool false) rfl (by kernel_rfl) (by kernel_rfl) (by kernel_rfl) (fun _ _ _ h => h) hst (EffB.run rfl rfl (fun wd hS => ?_)) (.inr (EffB.run rfl rfl (fun wd hS => ?_))) ?_
      · (go_wp2; exact ⟨rfl, Below.refl _ _⟩)
      · (go_wp2; exact ⟨rfl, Below.refl _ _⟩)
      simp only [act_norm]
      refine wpAnyE_done (by kernel_rfl) (fun wd hS => ?_) _
      have HSS := Lib.hid hS.1.1.1
      clear hS hst hst2
      by_cases hw0 : width < 0
      · rw [show max width 0 = 0 by omega] at SU
        go_wp2_with ((with_reducible refine (SU.out _).mono ?_); rintro e wc ⟨rfl, rfl⟩)
        exact ⟨⟨k + 1, by omega, by go_num, by rw [T2.out], HSS.out⟩, by simp [intOf]; omega⟩
      · rw [show max width 0 = width by omega] at SU
        go_wp2_with ((with_reducible refine (SU.out _).mono ?_); rintro e wc ⟨rfl, rfl⟩)
        exact ⟨⟨k + 1, by omega, by go_num, by rw [T2.out], HSS.out⟩, by simp [intOf]; omega⟩
    · obtain rfl : k = N := by omega
      go_wp2
      go_ret
      exact ⟨rfl, HB3.out.trans (hB.mono HB3.out.size)⟩

set_option maxHeartbeats 4000000 in
set_option maxRecDepth 100000 in
theorem each_big (p : Option Addr) (cap len : Nat) (l : List Samp) (to width : Int) (n : Int) (N : Nat) (hN : N = 256) (hni : I64 n) (h300 : ¬ 300 < n) (h256 : 256 < n) (hz : ((N : Int) != 256) = false) (hNb : N ≤ 256) (h20 : ¬ 20 < len) (hwi : I64 width) (hlen : len = l.length)
    (each : ∀ W : World, Samps W p l → Calls Try.prog 30 #[.slice p len cap, .int .i64 to, .int .i64 width, .int .i64 n] W (RetOwns W 5 N (statVals (Win.stats l to width N))))
    (frm : ∀ (k : Nat) (W : World), Calls Try.prog 15 #[.int .i64 (Win.at to width k), .int .i64 width] W fun e w' => e = .returned (.int .i64 (Win.from (Win.at to width k) width)) ∧ W = w')
    (cut : ∀ (k : Nat) (W : World), Samps W p l → Calls Try.prog 18 #[.slice p len cap, .int .i64 (Win.from (Win.at to width k) width), .int .i64 (Win.at to width k)] W (RetOwns W 2 (Samp.cut (Win.from (Win.at to width k) width) (Win.at to width k) l).length (sampVals (Samp.cut (Win.from (Win.at to width k) width) (Win.at to width k) l))))
    (is : ∀ (k : Nat) (q : Option Addr) (c : Nat) (W : World), Samps W q (Samp.cut (Win.from (Win.at to width k) width) (Win.at to width k) l) → Calls Try.prog 23 #[.slice q (Samp.cut (Win.from (Win.at to width k) width) (Win.at to width k) l).length c, .agg #[.int .i64 (Win.stat l to width k).count, .int .i64 (Win.stat l to width k).sum, .int .i64 (Win.stat l to width k).least, .int .i64 (Win.stat l to width k).most, .int .i64 (Win.stat l to width k).mean]] W fun e w' => e = .returned (.bool true) ∧ Below W.heap.size W w')
    (sub : ∀ (k : Nat) (W : World), Calls Try.prog 31 #[.int .i64 (Win.at to width k), .int .i64 (max width 0)] W fun e w' => e = .returned (.int .i64 (Win.at to width (k + 1))) ∧ W = w')
    (hti : ∀ k, I64 (Win.at to width k)) (w : World) (hs : Samps w p l) :
    Calls Try.prog 6 #[.slice p len cap, .int .i64 to, .int .i64 width, .int .i64 n] w fun e w' => e = .returned (.bool true) ∧ Below w.heap.size w w' := by
  have hgt := fun k h => Win.stats_get l to width N k h
  have hsl := Win.stats_len l to width N
  obtain ⟨L, eL⟩ : ∃ L, L = Win.stats l to width N := ⟨_, rfl⟩
  simp only [← eL] at each hgt hsl
  have EA := Lib.hid each
  have FR := Lib.hid frm
  have CU := Lib.hid cut
  have IS := Lib.hid is
  have SU := Lib.hid sub
  have TI := Lib.hid hti
  have HS := Lib.hid hs
  have GT := Lib.hid hgt
  have SL := Lib.hid hsl
  obtain ⟨wi1, wi2⟩ := hwi
  clear hN
  clear each frm cut is sub hti hs hlen hgt hsl eL
  go_enter Try.func6, Try.ntmps6
  go_wp2_with fail
  (with_reducible refine (awake09 _).mono ?_)
  rintro e w1 ⟨rfl, hb1⟩
  have HB := Lib.hid hb1
  clear hb1
  go_wp2_with fail
  (with_reducible refine (EA.out _ (HS.out.below HB.out)).mono ?_)
  rintro e w3 ⟨u, rfl, hO, hb3⟩
  have HB3 := Lib.hid (HB.out.trans (hb3.mono HB.out.size))
  rw [← SL.out] at hO
  obtain ⟨q, c, rfl, _, hq⟩ := stats_of_owns hO
  rw [SL.out]
  have HQ := Lib.hid hq
  have HS3 := Lib.hid ((HS.out.below HB3.out))
  clear hO hb3 hq HB EA HS
  go_wp2
  go_loopw [10, 36] (fun t i wr => ∃ k : Nat, k ≤ N ∧ i = .int .i64 k ∧ t = .int .i64 (Win.at to width k) ∧ Below w3.heap.size w3 wr) (fun _ i _ => N - (intOf i).toNat)
  case atStart => exact ⟨0, by omega, rfl, rfl, Below.refl _ _⟩
  case round =>
    obtain ⟨k, hk, rfl, rfl, hB⟩ := hrel
    by_cases hlt : k < N
    · obtain ⟨b, off, rfl, hbw, g0, g1, g2, g3, g4⟩ := HQ.out.cells k (by have := SL.out; omega)
      rw [← hB.cell (p := ⟨b, _, none⟩) hbw, GT.out k hlt] at g0 g1 g2 g3 g4
      have frm := FR.out k
      have cut := CU.out k
      have is := IS.out k
      have sub := SU.out k
      have hti := TI.out k
      obtain ⟨s, es⟩ : ∃ s, s = Win.stat l to width k := ⟨_, rfl⟩
      obtain ⟨t, et⟩ : ∃ s, s = Win.at to width k := ⟨_, rfl⟩
      obtain ⟨t2, et2⟩ : ∃ s, s = Win.at to width (k + 1) := ⟨_, rfl⟩
      simp only [← es, ← et, ← et2] at g0 g1 g2 g3 g4 frm cut is sub hti ⊢
      obtain ⟨f, ef⟩ : ∃ f, f = Win.from t width := ⟨_, rfl⟩
      simp only [← ef] at frm cut is
      obtain ⟨C, eC⟩ : ∃ C, C = Samp.cut f t l := ⟨_, rfl⟩
      simp only [← eC] at cut is
      have CT := Lib.hid cut
      have IS := Lib.hid is
      have SU := Lib.hid sub
      have FR := Lib.hid frm
      have HB := Lib.hid hB
      have T2 := Lib.hid et2
      have k1 : (wr.alloc (.cells #[.int .i64 s.count, .int .i64 s.sum, .int .i64 s.least, .int .i64 s.most, .int .i64 s.mean] 32)).heap[wr.heap.size]? = some (.cells #[.int .i64 s.count, .int .i64 s.sum, .int .i64 s.least, .int .i64 s.most, .int .i64 s.mean] 32 (0, 0)) := heap_alloc_at _ _ _ rfl
      have hb1 := hB.alloc hB.size (.cells #[.int .i64 s.count, .int .i64 s.sum, .int .i64 s.least, .int .i64 s.most, .int .i64 s.mean] 32)
      have K1 := Lib.hid k1
      have HB1 := Lib.hid hb1
      have HS4 := Lib.hid (HS3.out.below hb1)
      obtain ⟨i1, i2⟩ := hti
      clear cut is sub frm hB es et et2 ef eC k1 hb1
      go_wp2_with ((with_reducible refine wpList_store_rowAs rfl 32 _ _ rfl (wr.heap.size) #[.int .i64 s.count, .int .i64 s.sum, .int .i64 s.least, .int .i64 s.most, .int .i64 s.mean] ?_ ?_ 32 #[.int .i64 0, .int .i64 0, .int .i64 0, .int .i64 0, .int .i64 0] 5 ?_ (by kernel_rfl) rfl rfl (by simp [Value.oneCell']) ?_); exact rfl; exact rfl; exact (heap_alloc_at _ _ _ rfl); (first | rw [row_1_0] | rw [row_2_0] | rw [row_2_1] | rw [row_3_0] | rw [row_3_1] | rw [row_3_2] | rw [row_4_0] | rw [row_4_1] | rw [row_4_2] | rw [row_4_3] | rw [row_5_0] | rw [row_5_1] | rw [row_5_2] | rw [row_5_3] | rw [row_5_4] | rw [row_6_0] | rw [row_6_1] | rw [row_6_2] | rw [row_6_3] | rw [row_6_4] | rw [row_6_5] | simp only [setRow_alloc_past, setRow_alloc_at, World.size_alloc, Nat.add_assoc, Nat.reduceAdd, Nat.lt_add_right_iff_pos, Nat.add_lt_add_iff_left, Nat.reduceLT, Nat.zero_lt_succ, Nat.lt_add_one]))
      obtain ⟨X, hX⟩ : ∃ X, X = wr.heap.size := ⟨_, rfl⟩
      rw [← hX] at K1 ⊢
      clear hX g0 g1 g2 g3 g4
      have hst : Stab (fun w' => (Below w3.heap.size w3 w' ∧ w'.heap[X]? = some (.cells #[.int .i64 s.count, .int .i64 s.sum, .int .i64 s.least, .int .i64 s.most, .int .i64 s.mean] 32 (0, 0))) ∧ Samps w' p l) :=
        stab_and (stab_and (stab_below (Nat.le_refl _)) (stab_heap _ _)) (fun _ _ h hb => h.below hb)
      refine wp_region_E mixed [] hst ⟨⟨below_drew HB1.out, K1.out⟩, HS4.out⟩ ?_
      refine wpAnyE_take 0 rfl (by kernel_rfl) (by kernel_rfl) (by kernel_rfl) (fun _ _ _ h => h) hst (EffB.pure rfl (fun _ => rfl)) (.inr (EffB.pure rfl (fun _ => rfl))) ?_
      simp only [act_norm]
      refine wpAnyE_take 1 rfl (by kernel_rfl) (by kernel_rfl) (by kernel_rfl) (fun _ _ _ h => h) hst (EffB.pure rfl (fun _ => rfl)) (.inr (EffB.pure rfl (fun _ => rfl))) ?_
      simp only [act_norm]
      refine wpAnyE_take 2 rfl (by kernel_rfl) (by kernel_rfl) (by kernel_rfl) (fun _ _ _ h => h) hst (EffB.pure rfl (fun _ => rfl)) (.inr (EffB.pure rfl (fun _ => rfl))) ?_
      simp only [act_norm]
      refine wpAnyE_take 3 (v := .int .i64 f) rfl (by kernel_rfl) (by kernel_rfl) (by kernel_rfl) (fun _ _ _ h => h) hst (EffB.run rfl rfl (fun wd hS => ?_)) (.inl (by kernel_rfl)) ?_
      · (go_wp2_with fail; (with_reducible refine (FR.out wd).mono ?_); rintro e w'' ⟨rfl, rfl⟩; exact ⟨rfl, Below.refl _ _⟩)
      simp only [act_norm]
      refine wpAnyE_take 4 rfl (by kernel_rfl) (by kernel_rfl) (by kernel_rfl) (fun _ _ _ h => h) hst (EffB.pure rfl (fun _ => rfl)) (.inr (EffB.pure rfl (fun _ => rfl))) ?_
      simp only [act_norm]
      refine wpAnyE_take 6 (v := .agg #[.int .i64 s.count, .int .i64 s.sum, .int .i64 s.least, .int .i64 s.most, .int .i64 s.mean]) rfl (by kernel_rfl) (by kernel_rfl) (by kernel_rfl) (fun _ _ _ h => h) hst (EffB.run rfl rfl (fun wd hS => ?_)) (.inl (by kernel_rfl)) ?_
      · exact wp_load_row 32 _ rfl X rfl 32 #[.int .i64 s.count, .int .i64 s.sum, .int .i64 s.least, .int .i64 s.most, .int .i64 s.mean] (0, 0) _ hS.1.2 Try.underlying32 rfl statInfo ⟨rfl, Below.refl _ _⟩
      simp only [act_norm]
      refine wpAnyE_one 5 rfl (by kernel_rfl) rfl (fun wd hS => ?_)
      go_wp2_with fail
      (with_reducible refine (CT.out _ hS.2).mono ?_)
      rintro e w4 ⟨u, rfl, hO, hb4⟩
      obtain ⟨q1, c1, rfl, _, hq1⟩ := samps_of_owns hO
      have hst2 : Stab (fun w' => ((Below w3.heap.size w3 w' ∧ w'.heap[X]? = some (.cells #[.int .i64 s.count, .int .i64 s.sum, .int .i64 s.least, .int .i64 s.most, .int .i64 s.mean] 32 (0, 0))) ∧ Samps w' p l) ∧ Samps w' q1 C) :=
        stab_and hst (fun _ _ h hb => h.below hb)
      refine ⟨fun w' => ((Below w3.heap.size w3 w' ∧ w'.heap[X]? = some (.cells #[.int .i64 s.count, .int .i64 s.sum, .int .i64 s.least, .int .i64 s.most, .int .i64 s.mean] 32 (0, 0))) ∧ Samps w' p l) ∧ Samps w' q1 C, ⟨hst _ _ hS hb4, hq1⟩, hst2, (by first | exact fun _ h => h.1 | exact .inr fun _ h => h.1), ?_⟩
      try simp only [act_norm]
      clear hO hb4 hS hst hq1
      have hst := hst2
      refine wpAnyE_take 7 (v := .bool true) rfl (by kernel_rfl) (by kernel_rfl) (by kernel_rfl) (fun _ _ _ h => h) hst (EffB.run rfl rfl (fun wd hS => ?_)) (.inl (by kernel_rfl)) ?_
      · (go_wp2_with fail; (with_reducible refine (IS.out _ _ wd hS.2).mono ?_); rintro e w'' ⟨rfl, hb⟩; exact ⟨rfl, hb⟩)
      simp only [act_norm]
      refine wpAnyE_take 8 (v := .bool false) rfl (by kernel_rfl) (by kernel_rfl) (by kernel_rfl) (fun _ _ _ h => h) hst (EffB.run rfl rfl (fun wd hS => ?_)) (.inr (EffB.run rfl rfl (fun wd hS => ?_))) ?_
      · (go_wp2; exact ⟨rfl, Below.refl _ _⟩)
      · (go_wp2; exact ⟨rfl, Below.refl _ _⟩)
      simp only [act_norm]
      refine wpAnyE_done (by kernel_rfl) (fun wd hS => ?_) _
      have HSS := Lib.hid hS.1.1.1
      clear hS hst hst2
      by_cases hw0 : width < 0
      · rw [show max width 0 = 0 by omega] at SU
        go_wp2_with ((with_reducible refine (SU.out _).mono ?_); rintro e wc ⟨rfl, rfl⟩)
        exact ⟨⟨k + 1, by omega, by go_num, by rw [T2.out], HSS.out⟩, by simp [intOf]; omega⟩
      · rw [show max width 0 = width by omega] at SU
        go_wp2_with ((with_reducible refine (SU.out _).mono ?_); rintro e wc ⟨rfl, rfl⟩)
        exact ⟨⟨k + 1, by omega, by go_num, by rw [T2.out], HSS.out⟩, by simp [intOf]; omega⟩
    · obtain rfl : k = N := by omega
      go_wp2
      go_ret
      exact ⟨rfl, HB3.out.trans (hB.mono HB3.out.size)⟩

set_option maxHeartbeats 2000000 in
set_option maxRecDepth 100000 in
theorem windowEach_walk (p : Option Addr) (cap : Nat) (l : List Samp) (hin : ∀ a ∈ l, a.In) (to width n : Int) (ht : I64 to) (hw : I64 width) (hn : I64 n) (hb : l.length ≤ 9223372036854775807) (w : World) (hs : Samps w p l) :
    Calls Try.prog 6 #[.slice p l.length cap, .int .i64 to, .int .i64 width, .int .i64 n] w fun e w' => e = .returned (.bool true) ∧ Below w.heap.size w w' := by
  by_cases h20 : 20 < l.length
  · obtain ⟨m, hm⟩ : ∃ n, n = l.length := ⟨_, rfl⟩
    rw [← hm] at h20 hb ⊢
    clear hin hs hm
    go_enter Try.func6, Try.ntmps6
    go_wp2_with fail
    (with_reducible refine (awake09 _).mono ?_)
    rintro e w1 ⟨rfl, hb1⟩
    have HB := Lib.hid hb1
    clear hb1
    go_wp2
    go_ret
    exact ⟨rfl, HB.out⟩
  by_cases h300 : 300 < n
  · obtain ⟨m, hm⟩ : ∃ n, n = l.length := ⟨_, rfl⟩
    rw [← hm] at h20 hb ⊢
    clear hin hs hm
    go_enter Try.func6, Try.ntmps6
    go_wp2_with fail
    (with_reducible refine (awake09 _).mono ?_)
    rintro e w1 ⟨rfl, hb1⟩
    have HB := Lib.hid hb1
    clear hb1
    go_wp2
    go_ret
    exact ⟨rfl, HB.out⟩
  have ti := Win.at_I64 to width ht
  have frm := fun (k : Nat) (W : World) => ref09_from (Win.at to width k) width (ti k) hw W
  have cut := fun (k : Nat) (W : World) (h : Samps W p l) => ref09_cut p cap l (Win.from (Win.at to width k) width) (Win.at to width k) (by omega) W h
  have is := fun (k : Nat) (q : Option Addr) (c : Nat) (W : World) (h : Samps W q (Samp.cut (Win.from (Win.at to width k) width) (Win.at to width k) l)) =>
    ref09_is q c _ (Samp.cut_In _ _ l hin) (by have := Samp.cut_len (Win.from (Win.at to width k) width) (Win.at to width k) l; omega) (Win.stat l to width k) rfl W h
  have sub := fun (k : Nat) (W : World) => ref_sub (Win.at to width k) (max width 0) (ti k) (by unfold I64 at *; omega) W
  have each := fun (N : Nat) (hN : N = (min n 256).toNat) (W : World) (h : Samps W p l) => window_each p cap l hin (by omega) to width n ht hw hn N hN W h
  by_cases h0 : n ≤ 0
  · exact each_neg p cap l.length l to width n 0 h0 rfl hn h300 (by omega) rfl (by omega) h20 hw rfl (each 0 (by omega)) frm cut is sub ti w hs
  by_cases h256 : 256 < n
  · exact each_big p cap l.length l to width n 256 rfl hn h300 h256 rfl (by omega) h20 hw rfl (each 256 (by omega)) frm cut is sub ti w hs
  obtain ⟨N, rfl⟩ : ∃ N : Nat, n = N := ⟨n.toNat, by omega⟩
  exact each_mid p cap l.length l to width (N : Int) N (by omega) rfl hn h300 (by omega) (by simp) (by omega) h20 hw rfl (each N (by omega)) frm cut is sub ti w hs
end Go.Proofs.Ytdchooggindihaa
