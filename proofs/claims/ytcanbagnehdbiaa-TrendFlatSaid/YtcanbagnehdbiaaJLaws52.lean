/- Layer 52: the line of any samples, and its value: the law, walked. -/
import Derived.Test.YtcanbagnehdbiaaJTrend2
namespace Go.Proofs.Ytcanbagnehdbiaa
open Go.ChangeShapes Go.WideShapes Go.ChangeAt Go.RowKit

theorem lin_equal (x : Lin) (w : World) : (Op.equalIn 10000 94 (.agg #[.int .i64 x.tick, .int .i64 x.val, .int .i64 x.rise, .int .i64 x.run]) (.agg #[.int .i64 x.tick, .int .i64 x.val, .int .i64 x.rise, .int .i64 x.run])).run Try.prog w = .ok true w := by
  simp [go_sem]
theorem linT_equal (x : Lin) (w : World) : (Op.equalIn 10000 95 (.agg #[.int .i64 x.tick, .int .i64 x.val, .int .i64 x.rise, .int .i64 x.run]) (.agg #[.int .i64 x.tick, .int .i64 x.val, .int .i64 x.rise, .int .i64 x.run])).run Try.prog w = .ok true w := by
  simp [go_sem]

set_option maxHeartbeats 1000000 in
set_option maxRecDepth 100000 in
theorem awake52 (w : World) : Calls Try.prog 52 #[] w fun e w' => e = .returned (.bool true) ∧ Below w.heap.size w w' := by
  have h1 : Calls Try.prog 53 #[.slice (some ⟨w.heap.size, 0, none⟩) 2 2] (w.alloc (.cells #[.int .i64 0, .int .i64 0, .int .i64 10, .int .i64 20] 73))
      fun e w' => e = .returned (.tuple #[.agg #[.int .i64 10, .int .i64 20, .int .i64 20, .int .i64 10], .bool true]) ∧ Below w.heap.size w w' := by
    have := trend_of (some ⟨w.heap.size, 0, none⟩) 2 [⟨0, 0⟩, ⟨10, 20⟩] (by intro a ha; simp at ha; unfold Samp.In I64; rcases ha with rfl | rfl <;> simp) (by simp) _ (samps_alloc w [⟨0, 0⟩, ⟨10, 20⟩] 73 _ rfl)
    rw [show Trd.line (Ser.of 256 [⟨0, 0⟩, ⟨10, 20⟩] [(⟨0, 0⟩ : Samp), ⟨10, 20⟩].length) = ⟨10, 20, 20, 10⟩ by decide +kernel, show decide (0 < (Ser.of 256 [⟨0, 0⟩, ⟨10, 20⟩] [(⟨0, 0⟩ : Samp), ⟨10, 20⟩].length).length) = true by decide +kernel] at this
    exact this.mono fun e w' ⟨a, b⟩ => ⟨a, (below1 w _).trans (b.mono (by simp))⟩
  have h2 := fun W : World => trend_at ⟨10, 20, 20, 10⟩ (by unfold Lin.In I64; simp) 15 (by unfold I64; simp) W
  rw [show Lin.at ⟨10, 20, 20, 10⟩ 15 = 30 by decide +kernel] at h2
  have h3 := fun W : World => trend_up ⟨10, 20, 20, 10⟩ W
  rw [show Lin.up ⟨10, 20, 20, 10⟩ = true by decide +kernel] at h3
  have H1 := Lib.hid h1
  have H2 : Hid (∀ W : World, Calls Try.prog 55 #[.agg #[.int .i64 10, .int .i64 20, .int .i64 20, .int .i64 10], .int .i64 15] W fun e w' => e = .returned (.int .i64 30) ∧ Below W.heap.size W w') := h2
  have H3 : Hid (∀ W : World, Calls Try.prog 57 #[.agg #[.int .i64 10, .int .i64 20, .int .i64 20, .int .i64 10]] W fun e w' => e = .returned (.bool true) ∧ Below W.heap.size W w') := h3
  have heq := fun W : World => linT_equal ⟨10, 20, 20, 10⟩ W
  clear h1 h2 h3
  go_enter Try.func52, Try.ntmps52
  go_wp2_with fail
  (with_reducible refine H1.out.mono ?_)
  rintro e w1 ⟨rfl, hb1⟩
  have M1 := Lib.hid (((Mem.start w).call hb1).alloc (.cells #[.int .i64 10, .int .i64 20, .int .i64 20, .int .i64 10] 95))
  have K1 := Lib.hid (M1.out.heap 0 rfl)
  clear hb1 H1
  go_wp2_with (first | ((with_reducible refine wpList_load_rowG ?_ 95 _ rfl (w1.heap.size) ?_ 95 #[.int .i64 10, .int .i64 20, .int .i64 20, .int .i64 10] (0, 0) _ 4 ?_ Try.underlying95 rfl (by kernel_rfl) ?_ ?_); kernel_rfl; exact rfl; exact K1.out; exact rfl) | ((with_reducible refine wpList_eql_aggG ?_ _ _ _ _ rfl _ _ rfl rfl true (by kernel_rfl) (heq _) ?_); kernel_rfl))
  (with_reducible refine (H2.out _).mono ?_)
  rintro e w2 ⟨rfl, hb2⟩
  have M2 := Lib.hid (M1.out.call hb2)
  have K2 := Lib.hid (M2.out.heap 0 rfl)
  clear hb2 H2 M1 K1
  go_wp2_with (first | ((with_reducible refine wpList_load_rowG ?_ 95 _ rfl (w1.heap.size) ?_ 95 #[.int .i64 10, .int .i64 20, .int .i64 20, .int .i64 10] (0, 0) _ 4 ?_ Try.underlying95 rfl (by kernel_rfl) ?_ ?_); kernel_rfl; exact rfl; exact K2.out; exact rfl))
  (with_reducible refine (H3.out _).mono ?_)
  rintro e w3 ⟨rfl, hb3⟩
  have M3 := Lib.hid (M2.out.call hb3)
  clear hb3 H3 M2 K2
  go_wp2
  go_ret
  exact ⟨rfl, M3.out.below⟩

set_option maxHeartbeats 4000000 in
set_option maxRecDepth 100000 in
theorem trendTells_walk (p : Option Addr) (cap : Nat) (l : List Samp) (hl : ∀ a ∈ l, a.In) (hb : l.length ≤ 9223372036854775807) (x : Lin) (hx : x.In) (t : Int) (ht : I64 t) (w : World) (hs : Samps w p l) :
    Calls Try.prog 12 #[.slice p l.length cap, .agg x.row, .int .i64 t] w fun e w' => e = .returned (.bool true) ∧ Below w.heap.size w w' := by
  obtain ⟨n, en⟩ : ∃ n, n = l.length := ⟨_, rfl⟩
  by_cases h60 : 60 < n
  · have d1 : decide ((60 : Int) < n) = true := decide_eq_true (by omega)
    rw [← en] at hb ⊢
    obtain ⟨x0, x1, x2, x3⟩ := x
    show Calls Try.prog 12 #[.slice p n cap, .agg #[.int .i64 x0, .int .i64 x1, .int .i64 x2, .int .i64 x3], .int .i64 t] w _
    clear en hs hl
    go_enter Try.func12, Try.ntmps12
    go_wp2_with fail
    (with_reducible refine (awake52 _).mono ?_)
    rintro e w1 ⟨rfl, hb1⟩
    have M1 := Lib.hid (((Mem.start w).alloc (.cells #[.int .i64 x0, .int .i64 x1, .int .i64 x2, .int .i64 x3] 94)).call hb1)
    clear hb1
    go_wp2
    go_ret
    exact ⟨rfl, M1.out.below⟩
  have d1 : decide ((60 : Int) < n) = false := decide_eq_false (by omega)
  have f1 := fun W : World => fun h : Samps W p l => trend_of p cap l hl (by omega) W h
  have f2 := fun W : World => fun h : Samps W p l => ref52_of p cap l hl (by omega) W h
  have hgood := Ser.of_good 256 l hl l.length (Nat.le_refl _)
  have hsort := Ser.of_sorted 256 l l.length (Nat.le_refl _)
  obtain ⟨hyin, hyrun⟩ := Trd.line_good hsort hgood
  obtain ⟨L, eL⟩ : ∃ L, L = Ser.of 256 l l.length := ⟨_, rfl⟩
  rw [← eL] at hyin hyrun
  simp only [← eL] at f1 f2
  obtain ⟨y, ey⟩ : ∃ y, y = Trd.line L := ⟨_, rfl⟩
  rw [← ey] at hyin hyrun
  simp only [← ey] at f1 f2
  have hbool : decide (0 < L.length) = true → 1 ≤ y.run := fun h => hyrun (of_decide_eq_true h)
  obtain ⟨bb, ebb⟩ : ∃ b, b = decide (0 < L.length) := ⟨_, rfl⟩
  rw [← ebb] at hbool
  simp only [← ebb] at f1 f2
  have f3 := fun W : World => trend_at x hx t ht W
  have f4 := fun W : World => ref52_at x hx t ht W
  have f5 := fun W : World => trend_at y hyin t ht W
  have f6 := fun W : World => ref52_at y hyin t ht W
  have f7 := fun W : World => trend_up x W
  obtain ⟨u1, eu1⟩ : ∃ u, u = x.at t := ⟨_, rfl⟩
  obtain ⟨u2, eu2⟩ : ∃ u, u = y.at t := ⟨_, rfl⟩
  simp only [← eu1] at f3 f4
  simp only [← eu2] at f5 f6
  have hq := fun W : World => lin_equal y W
  obtain ⟨x0, x1, x2, x3⟩ := x
  obtain ⟨y0, y1, y2, y3⟩ := y
  simp only at hq hbool
  rw [← en] at hb
  simp only [← en] at f1 f2 ⊢
  have F1 : Hid (∀ W : World, Samps W p l → Calls Try.prog 53 #[.slice p n cap] W fun e w' => e = .returned (.tuple #[.agg #[.int .i64 y0, .int .i64 y1, .int .i64 y2, .int .i64 y3], .bool bb]) ∧ Below W.heap.size W w') := f1
  have F2 : Hid (∀ W : World, Samps W p l → Calls Try.prog 54 #[.slice p n cap] W fun e w' => e = .returned (.tuple #[.agg #[.int .i64 y0, .int .i64 y1, .int .i64 y2, .int .i64 y3], .bool bb]) ∧ Below W.heap.size W w') := f2
  have F3 : Hid (∀ W : World, Calls Try.prog 55 #[.agg #[.int .i64 x0, .int .i64 x1, .int .i64 x2, .int .i64 x3], .int .i64 t] W fun e w' => e = .returned (.int .i64 u1) ∧ Below W.heap.size W w') := f3
  have F4 : Hid (∀ W : World, Calls Try.prog 56 #[.agg #[.int .i64 x0, .int .i64 x1, .int .i64 x2, .int .i64 x3], .int .i64 t] W fun e w' => e = .returned (.int .i64 u1) ∧ Below W.heap.size W w') := f4
  have F5 : Hid (∀ W : World, Calls Try.prog 55 #[.agg #[.int .i64 y0, .int .i64 y1, .int .i64 y2, .int .i64 y3], .int .i64 t] W fun e w' => e = .returned (.int .i64 u2) ∧ Below W.heap.size W w') := f5
  have F6 : Hid (∀ W : World, Calls Try.prog 56 #[.agg #[.int .i64 y0, .int .i64 y1, .int .i64 y2, .int .i64 y3], .int .i64 t] W fun e w' => e = .returned (.int .i64 u2) ∧ Below W.heap.size W w') := f6
  have F7 : Hid (∀ W : World, Calls Try.prog 57 #[.agg #[.int .i64 x0, .int .i64 x1, .int .i64 x2, .int .i64 x3]] W fun e w' => e = .returned (.bool (decide (0 < x3) && decide (0 < x2))) ∧ Below W.heap.size W w') := f7
  have HS := Lib.hid hs
  have HQ := Lib.hid hq
  show Calls Try.prog 12 #[.slice p n cap, .agg #[.int .i64 x0, .int .i64 x1, .int .i64 x2, .int .i64 x3], .int .i64 t] w _
  clear f1 f2 f3 f4 f5 f6 f7 hs hq en hl eL ey ebb eu1 eu2 hx ht hyin hyrun hgood hsort
  have hrr : (0 < x3 ∧ 0 < x2) ∨ (0 < x3 ∧ ¬ 0 < x2) ∨ ¬ 0 < x3 := by omega
  rcases hrr with ⟨r3, r2⟩ | ⟨r3, r2⟩ | r3 <;> cases bb
  · have e3 : decide (0 < x3) = true := decide_eq_true r3
    have e2 : decide (0 < x2) = true := decide_eq_true r2
    clear hbool
    simp only [e3, e2, Bool.and_true, Bool.true_and, Bool.false_and, Bool.and_false, Bool.and_self] at F7
    go_enter Try.func12, Try.ntmps12
    go_wp2_with fail
    (with_reducible refine (awake52 _).mono ?_)
    rintro e w1 ⟨rfl, hb1⟩
    have M1 := Lib.hid (((Mem.start w).alloc (.cells #[.int .i64 x0, .int .i64 x1, .int .i64 x2, .int .i64 x3] 94)).call hb1)
    clear hb1
    go_wp2_with fail
    (with_reducible refine (F1.out _ (HS.out.below M1.out.below)).mono ?_)
    rintro e w2 ⟨rfl, hb2⟩
    have M2 := Lib.hid ((M1.out.call hb2).alloc (.cells #[.int .i64 y0, .int .i64 y1, .int .i64 y2, .int .i64 y3] 95))
    clear hb2 M1 F1
    go_wp2_with fail
    obtain ⟨A, hA⟩ : ∃ Y, w2.heap.size = Y := ⟨_, rfl⟩
    rw [hA] at M2
    try rw [hA]
    (with_reducible refine (F2.out _ (HS.out.below M2.out.below)).mono ?_)
    rintro e w3 ⟨rfl, hb3⟩
    have M3 := Lib.hid ((M2.out.call hb3).alloc (.cells #[.int .i64 y0, .int .i64 y1, .int .i64 y2, .int .i64 y3] 94))
    clear hb3 M2 F2 hA
    obtain ⟨B, hB⟩ : ∃ Y, w3.heap.size = Y := ⟨_, rfl⟩
    rw [hB] at M3
    have K0 := Lib.hid (M3.out.heap 0 rfl)
    have K1 := Lib.hid (M3.out.heap 1 rfl)
    have K2 := Lib.hid (M3.out.heap 2 rfl)
    have c3 := M3.out.cell 1 3 rfl rfl
    have M4 := Lib.hid (M3.out.allocAs (B + 1) (.cells #[.int .i64 x0, .int .i64 x1, .int .i64 x2, .int .i64 x3] 95) (by rw [World.size_alloc, hB]))
    clear M3
    go_wp2_with (first | ((with_reducible refine wpList_load_rowAs rfl 95 _ rfl (A) ?_ 95 #[.int .i64 y0, .int .i64 y1, .int .i64 y2, .int .i64 y3] (0, 0) _ 4 ?_ Try.underlying95 rfl (by kernel_rfl) ?_ ?_); exact rfl; exact K1.out; exact rfl) | ((with_reducible refine wpList_load_rowAs rfl 94 _ rfl (B) ?_ 94 #[.int .i64 y0, .int .i64 y1, .int .i64 y2, .int .i64 y3] (0, 0) _ 4 ?_ Try.underlying94 rfl (by kernel_rfl) ?_ ?_); exact rfl; exact K2.out; exact rfl) | (with_reducible refine wpList_neq_agg rfl _ _ _ _ rfl _ _ rfl rfl true (by kernel_rfl) (HQ.out _) ?_) | ((with_reducible refine wpList_load_rowAs rfl 94 _ rfl (w.heap.size) ?_ 94 #[.int .i64 x0, .int .i64 x1, .int .i64 x2, .int .i64 x3] (0, 0) _ 4 ?_ Try.underlying94 rfl (by kernel_rfl) ?_ ?_); exact rfl; exact K0.out; exact rfl))
    try rw [hB]
    have hst := stab_mem (w := w) (bs := [(w.heap.size, .cells #[.int .i64 x0, .int .i64 x1, .int .i64 x2, .int .i64 x3] 94), (A, .cells #[.int .i64 y0, .int .i64 y1, .int .i64 y2, .int .i64 y3] 95), (B, .cells #[.int .i64 y0, .int .i64 y1, .int .i64 y2, .int .i64 y3] 94), (B + 1, .cells #[.int .i64 x0, .int .i64 x1, .int .i64 x2, .int .i64 x3] 95)])
    refine wp_region_E mixed [] hst (M4.out.drewN 1) ?_
    clear K0 K1 K2 c3 M4 hB
    refine wpAnyE_take 0 (v := .agg #[.int .i64 x0, .int .i64 x1, .int .i64 x2, .int .i64 x3]) rfl (by kernel_rfl) (by kernel_rfl) (by kernel_rfl) (fun _ _ _ h => h) hst (EffB.run rfl rfl (fun wd hS => ?_)) (.inl (by kernel_rfl)) ?_
    · exact wp_load_row 95 _ rfl ((B + 1)) rfl 95 #[.int .i64 x0, .int .i64 x1, .int .i64 x2, .int .i64 x3] (0, 0) _ (hS.heap 3 rfl) Try.underlying95 rfl (by kernel_rfl) ⟨rfl, Below.refl _ _⟩
    simp only [act_norm]
    refine wpAnyE_take 1 rfl (by kernel_rfl) (by kernel_rfl) (by kernel_rfl) (fun _ _ _ h => h) hst (EffB.pure rfl (fun _ => rfl)) (.inr (EffB.pure rfl (fun _ => rfl))) ?_
    simp only [act_norm]
    refine wpAnyE_take 2 (v := .int .i64 u1) rfl (by kernel_rfl) (by kernel_rfl) (by kernel_rfl) (fun _ _ _ h => h) hst (EffB.run rfl rfl (fun wd hS => ?_)) (.inl (by kernel_rfl)) ?_
    · (go_wp2_with fail; (with_reducible refine (F3.out _).mono ?_); rintro e w'' ⟨rfl, hb⟩; exact ⟨rfl, hb⟩)
    simp only [act_norm]
    refine wpAnyE_take 3 (v := .agg #[.int .i64 x0, .int .i64 x1, .int .i64 x2, .int .i64 x3]) rfl (by kernel_rfl) (by kernel_rfl) (by kernel_rfl) (fun _ _ _ h => h) hst (EffB.run rfl rfl (fun wd hS => ?_)) (.inl (by kernel_rfl)) ?_
    · exact wp_load_row 94 _ rfl (w.heap.size) rfl 94 #[.int .i64 x0, .int .i64 x1, .int .i64 x2, .int .i64 x3] (0, 0) _ (hS.heap 0 rfl) Try.underlying94 rfl (by kernel_rfl) ⟨rfl, Below.refl _ _⟩
    simp only [act_norm]
    refine wpAnyE_take 4 rfl (by kernel_rfl) (by kernel_rfl) (by kernel_rfl) (fun _ _ _ h => h) hst (EffB.pure rfl (fun _ => rfl)) (.inr (EffB.pure rfl (fun _ => rfl))) ?_
    simp only [act_norm]
    refine wpAnyE_take 5 (v := .int .i64 u1) rfl (by kernel_rfl) (by kernel_rfl) (by kernel_rfl) (fun _ _ _ h => h) hst (EffB.run rfl rfl (fun wd hS => ?_)) (.inl (by kernel_rfl)) ?_
    · (go_wp2_with fail; (with_reducible refine (F4.out _).mono ?_); rintro e w'' ⟨rfl, hb⟩; exact ⟨rfl, hb⟩)
    simp only [act_norm]
    refine wpAnyE_take 6 (v := .bool true) rfl (by kernel_rfl) (by kernel_rfl) (by kernel_rfl) (fun _ _ _ h => h) hst (EffB.run rfl rfl (fun wd hS => ?_)) (.inr (EffB.run rfl rfl (fun wd hS => ?_))) ?_
    · (go_wp2; exact ⟨rfl, Below.refl _ _⟩)
    · (go_wp2; exact ⟨rfl, Below.refl _ _⟩)
    simp only [act_norm]
    refine wpAnyE_take 7 rfl (by kernel_rfl) (by kernel_rfl) (by kernel_rfl) (fun _ _ _ h => h) hst (EffB.pure rfl (fun _ => rfl)) (.inr (EffB.pure rfl (fun _ => rfl))) ?_
    simp only [act_norm]
    refine wpAnyE_take 8 (v := .agg #[.int .i64 x0, .int .i64 x1, .int .i64 x2, .int .i64 x3]) rfl (by kernel_rfl) (by kernel_rfl) (by kernel_rfl) (fun _ _ _ h => h) hst (EffB.run rfl rfl (fun wd hS => ?_)) (.inl (by kernel_rfl)) ?_
    · exact wp_load_row 95 _ rfl ((B + 1)) rfl 95 #[.int .i64 x0, .int .i64 x1, .int .i64 x2, .int .i64 x3] (0, 0) _ (hS.heap 3 rfl) Try.underlying95 rfl (by kernel_rfl) ⟨rfl, Below.refl _ _⟩
    simp only [act_norm]
    refine wpAnyE_take 9 (v := .bool true) rfl (by kernel_rfl) (by kernel_rfl) (by kernel_rfl) (fun _ _ _ h => h) hst (EffB.run rfl rfl (fun wd hS => ?_)) (.inl (by kernel_rfl)) ?_
    · (go_wp2_with fail; (with_reducible refine (F7.out _).mono ?_); rintro e w'' ⟨rfl, hb⟩; exact ⟨rfl, hb⟩)
    simp only [act_norm]
    refine wpAnyE_take 10 (v := .pointer (some ⟨w.heap.size, 3, none⟩)) rfl (by kernel_rfl) (by kernel_rfl) (by kernel_rfl) (fun _ _ _ h => h) hst (EffB.run rfl rfl (fun wd hS => ?_)) (.inr (EffB.run rfl rfl (fun wd hS => ?_))) ?_
    · (go_wp2; exact ⟨rfl, Below.refl _ _⟩)
    · (go_wp2; exact ⟨rfl, Below.refl _ _⟩)
    simp only [act_norm]
    refine wpAnyE_take 11 (v := .int .i64 x3) rfl (by kernel_rfl) (by kernel_rfl) (by kernel_rfl) (fun _ _ _ h => h) hst (EffB.run rfl rfl (fun wd hS => ?_)) (.inl (by kernel_rfl)) ?_
    · (have c2 : wd.cell? ⟨w.heap.size, 3, none⟩ = some (.int .i64 x3) := by rw [cell_of_row _ _ _ _ _ _ (hS.heap 0 rfl)]; rfl); go_wp2; exact ⟨rfl, Below.refl _ _⟩
    simp only [act_norm]
    refine wpAnyE_take 12 (v := .bool true) rfl (by kernel_rfl) (by kernel_rfl) (by kernel_rfl) (fun _ _ _ h => h) hst (EffB.run rfl rfl (fun wd hS => ?_)) (.inr (EffB.run rfl rfl (fun wd hS => ?_))) ?_
    · (go_wp2; exact ⟨rfl, Below.refl _ _⟩)
    · (go_wp2; exact ⟨rfl, Below.refl _ _⟩)
    simp only [act_norm]
    refine wpAnyE_take 13 rfl (by kernel_rfl) (by kernel_rfl) (by kernel_rfl) (fun _ _ _ h => h) hst (EffB.pure rfl (fun _ => rfl)) (.inr (EffB.pure rfl (fun _ => rfl))) ?_
    simp only [act_norm]
    refine wpAnyE_take 14 (v := .pointer (some ⟨w.heap.size, 2, none⟩)) rfl (by kernel_rfl) (by kernel_rfl) (by kernel_rfl) (fun _ _ _ h => h) hst (EffB.run rfl rfl (fun wd hS => ?_)) (.inr (EffB.run rfl rfl (fun wd hS => ?_))) ?_
    · (go_wp2; exact ⟨rfl, Below.refl _ _⟩)
    · (go_wp2; exact ⟨rfl, Below.refl _ _⟩)
    simp only [act_norm]
    refine wpAnyE_take 15 (v := .int .i64 x2) rfl (by kernel_rfl) (by kernel_rfl) (by kernel_rfl) (fun _ _ _ h => h) hst (EffB.run rfl rfl (fun wd hS => ?_)) (.inl (by kernel_rfl)) ?_
    · (have c2 : wd.cell? ⟨w.heap.size, 2, none⟩ = some (.int .i64 x2) := by rw [cell_of_row _ _ _ _ _ _ (hS.heap 0 rfl)]; rfl); go_wp2; exact ⟨rfl, Below.refl _ _⟩
    simp only [act_norm]
    refine wpAnyE_take 16 (v := .bool true) rfl (by kernel_rfl) (by kernel_rfl) (by kernel_rfl) (fun _ _ _ h => h) hst (EffB.run rfl rfl (fun wd hS => ?_)) (.inr (EffB.run rfl rfl (fun wd hS => ?_))) ?_
    · (go_wp2; exact ⟨rfl, Below.refl _ _⟩)
    · (go_wp2; exact ⟨rfl, Below.refl _ _⟩)
    simp only [act_norm]
    refine wpAnyE_take 17 (v := .bool true) rfl (by kernel_rfl) (by kernel_rfl) (by kernel_rfl) (fun _ _ _ h => h) hst (EffB.run rfl rfl (fun wd hS => ?_)) (.inr (EffB.run rfl rfl (fun wd hS => ?_))) ?_
    · (go_wp2; exact ⟨rfl, Below.refl _ _⟩)
    · (go_wp2; exact ⟨rfl, Below.refl _ _⟩)
    simp only [act_norm]
    refine wpAnyE_take 18 (v := .bool true) rfl (by kernel_rfl) (by kernel_rfl) (by kernel_rfl) (fun _ _ _ h => h) hst (EffB.run rfl rfl (fun wd hS => ?_)) (.inr (EffB.run rfl rfl (fun wd hS => ?_))) ?_
    · (go_wp2; exact ⟨rfl, Below.refl _ _⟩)
    · (go_wp2; exact ⟨rfl, Below.refl _ _⟩)
    simp only [act_norm]
    refine wpAnyE_take 19 (v := .bool true) rfl (by kernel_rfl) (by kernel_rfl) (by kernel_rfl) (fun _ _ _ h => h) hst (EffB.run rfl rfl (fun wd hS => ?_)) (.inr (EffB.run rfl rfl (fun wd hS => ?_))) ?_
    · (go_wp2; exact ⟨rfl, Below.refl _ _⟩)
    · (go_wp2; exact ⟨rfl, Below.refl _ _⟩)
    simp only [act_norm]
    refine wpAnyE_take 20 rfl (by kernel_rfl) (by kernel_rfl) (by kernel_rfl) (fun _ _ _ h => h) hst (EffB.pure rfl (fun _ => rfl)) (.inr (EffB.pure rfl (fun _ => rfl))) ?_
    simp only [act_norm]
    refine wpAnyE_take 21 (v := .agg #[.int .i64 y0, .int .i64 y1, .int .i64 y2, .int .i64 y3]) rfl (by kernel_rfl) (by kernel_rfl) (by kernel_rfl) (fun _ _ _ h => h) hst (EffB.run rfl rfl (fun wd hS => ?_)) (.inl (by kernel_rfl)) ?_
    · exact wp_load_row 95 _ rfl (A) rfl 95 #[.int .i64 y0, .int .i64 y1, .int .i64 y2, .int .i64 y3] (0, 0) _ (hS.heap 1 rfl) Try.underlying95 rfl (by kernel_rfl) ⟨rfl, Below.refl _ _⟩
    simp only [act_norm]
    refine wpAnyE_take 22 rfl (by kernel_rfl) (by kernel_rfl) (by kernel_rfl) (fun _ _ _ h => h) hst (EffB.pure rfl (fun _ => rfl)) (.inr (EffB.pure rfl (fun _ => rfl))) ?_
    simp only [act_norm]
    refine wpAnyE_take 23 (v := .int .i64 u2) rfl (by kernel_rfl) (by kernel_rfl) (by kernel_rfl) (fun _ _ _ h => h) hst (EffB.run rfl rfl (fun wd hS => ?_)) (.inl (by kernel_rfl)) ?_
    · (go_wp2_with fail; (with_reducible refine (F5.out _).mono ?_); rintro e w'' ⟨rfl, hb⟩; exact ⟨rfl, hb⟩)
    simp only [act_norm]
    refine wpAnyE_take 24 (v := .agg #[.int .i64 y0, .int .i64 y1, .int .i64 y2, .int .i64 y3]) rfl (by kernel_rfl) (by kernel_rfl) (by kernel_rfl) (fun _ _ _ h => h) hst (EffB.run rfl rfl (fun wd hS => ?_)) (.inl (by kernel_rfl)) ?_
    · exact wp_load_row 94 _ rfl (B) rfl 94 #[.int .i64 y0, .int .i64 y1, .int .i64 y2, .int .i64 y3] (0, 0) _ (hS.heap 2 rfl) Try.underlying94 rfl (by kernel_rfl) ⟨rfl, Below.refl _ _⟩
    simp only [act_norm]
    refine wpAnyE_take 25 rfl (by kernel_rfl) (by kernel_rfl) (by kernel_rfl) (fun _ _ _ h => h) hst (EffB.pure rfl (fun _ => rfl)) (.inr (EffB.pure rfl (fun _ => rfl))) ?_
    simp only [act_norm]
    refine wpAnyE_take 26 (v := .int .i64 u2) rfl (by kernel_rfl) (by kernel_rfl) (by kernel_rfl) (fun _ _ _ h => h) hst (EffB.run rfl rfl (fun wd hS => ?_)) (.inl (by kernel_rfl)) ?_
    · (go_wp2_with fail; (with_reducible refine (F6.out _).mono ?_); rintro e w'' ⟨rfl, hb⟩; exact ⟨rfl, hb⟩)
    simp only [act_norm]
    refine wpAnyE_take 27 (v := .bool true) rfl (by kernel_rfl) (by kernel_rfl) (by kernel_rfl) (fun _ _ _ h => h) hst (EffB.run rfl rfl (fun wd hS => ?_)) (.inr (EffB.run rfl rfl (fun wd hS => ?_))) ?_
    · (go_wp2; exact ⟨rfl, Below.refl _ _⟩)
    · (go_wp2; exact ⟨rfl, Below.refl _ _⟩)
    simp only [act_norm]
    refine wpAnyE_take 28 (v := .bool true) rfl (by kernel_rfl) (by kernel_rfl) (by kernel_rfl) (fun _ _ _ h => h) hst (EffB.run rfl rfl (fun wd hS => ?_)) (.inr (EffB.run rfl rfl (fun wd hS => ?_))) ?_
    · (go_wp2; exact ⟨rfl, Below.refl _ _⟩)
    · (go_wp2; exact ⟨rfl, Below.refl _ _⟩)
    simp only [act_norm]
    refine wpAnyE_take 29 rfl (by kernel_rfl) (by kernel_rfl) (by kernel_rfl) (fun _ _ _ h => h) hst (EffB.pure rfl (fun _ => rfl)) (.inr (EffB.pure rfl (fun _ => rfl))) ?_
    simp only [act_norm]
    refine wpAnyE_done (by kernel_rfl) (fun wd hS => ?_) _
    have MF := Lib.hid hS
    clear hS hst
    go_wp2
    go_ret
    exact ⟨rfl, MF.out.below⟩
  · have e3 : decide (0 < x3) = true := decide_eq_true r3
    have e2 : decide (0 < x2) = true := decide_eq_true r2
    have hrun : ¬ y3 < 1 := by have := hbool rfl; omega
    clear hbool
    simp only [e3, e2, Bool.and_true, Bool.true_and, Bool.false_and, Bool.and_false, Bool.and_self] at F7
    go_enter Try.func12, Try.ntmps12
    go_wp2_with fail
    (with_reducible refine (awake52 _).mono ?_)
    rintro e w1 ⟨rfl, hb1⟩
    have M1 := Lib.hid (((Mem.start w).alloc (.cells #[.int .i64 x0, .int .i64 x1, .int .i64 x2, .int .i64 x3] 94)).call hb1)
    clear hb1
    go_wp2_with fail
    (with_reducible refine (F1.out _ (HS.out.below M1.out.below)).mono ?_)
    rintro e w2 ⟨rfl, hb2⟩
    have M2 := Lib.hid ((M1.out.call hb2).alloc (.cells #[.int .i64 y0, .int .i64 y1, .int .i64 y2, .int .i64 y3] 95))
    clear hb2 M1 F1
    go_wp2_with fail
    obtain ⟨A, hA⟩ : ∃ Y, w2.heap.size = Y := ⟨_, rfl⟩
    rw [hA] at M2
    try rw [hA]
    (with_reducible refine (F2.out _ (HS.out.below M2.out.below)).mono ?_)
    rintro e w3 ⟨rfl, hb3⟩
    have M3 := Lib.hid ((M2.out.call hb3).alloc (.cells #[.int .i64 y0, .int .i64 y1, .int .i64 y2, .int .i64 y3] 94))
    clear hb3 M2 F2 hA
    obtain ⟨B, hB⟩ : ∃ Y, w3.heap.size = Y := ⟨_, rfl⟩
    rw [hB] at M3
    have K0 := Lib.hid (M3.out.heap 0 rfl)
    have K1 := Lib.hid (M3.out.heap 1 rfl)
    have K2 := Lib.hid (M3.out.heap 2 rfl)
    have c3 := M3.out.cell 1 3 rfl rfl
    have M4 := Lib.hid (M3.out.allocAs (B + 1) (.cells #[.int .i64 x0, .int .i64 x1, .int .i64 x2, .int .i64 x3] 95) (by rw [World.size_alloc, hB]))
    clear M3
    go_wp2_with (first | ((with_reducible refine wpList_load_rowAs rfl 95 _ rfl (A) ?_ 95 #[.int .i64 y0, .int .i64 y1, .int .i64 y2, .int .i64 y3] (0, 0) _ 4 ?_ Try.underlying95 rfl (by kernel_rfl) ?_ ?_); exact rfl; exact K1.out; exact rfl) | ((with_reducible refine wpList_load_rowAs rfl 94 _ rfl (B) ?_ 94 #[.int .i64 y0, .int .i64 y1, .int .i64 y2, .int .i64 y3] (0, 0) _ 4 ?_ Try.underlying94 rfl (by kernel_rfl) ?_ ?_); exact rfl; exact K2.out; exact rfl) | (with_reducible refine wpList_neq_agg rfl _ _ _ _ rfl _ _ rfl rfl true (by kernel_rfl) (HQ.out _) ?_) | ((with_reducible refine wpList_load_rowAs rfl 94 _ rfl (w.heap.size) ?_ 94 #[.int .i64 x0, .int .i64 x1, .int .i64 x2, .int .i64 x3] (0, 0) _ 4 ?_ Try.underlying94 rfl (by kernel_rfl) ?_ ?_); exact rfl; exact K0.out; exact rfl))
    try rw [hB]
    have hst := stab_mem (w := w) (bs := [(w.heap.size, .cells #[.int .i64 x0, .int .i64 x1, .int .i64 x2, .int .i64 x3] 94), (A, .cells #[.int .i64 y0, .int .i64 y1, .int .i64 y2, .int .i64 y3] 95), (B, .cells #[.int .i64 y0, .int .i64 y1, .int .i64 y2, .int .i64 y3] 94), (B + 1, .cells #[.int .i64 x0, .int .i64 x1, .int .i64 x2, .int .i64 x3] 95)])
    refine wp_region_E mixed [] hst (M4.out.drewN 1) ?_
    clear K0 K1 K2 c3 M4 hB
    refine wpAnyE_take 0 (v := .agg #[.int .i64 x0, .int .i64 x1, .int .i64 x2, .int .i64 x3]) rfl (by kernel_rfl) (by kernel_rfl) (by kernel_rfl) (fun _ _ _ h => h) hst (EffB.run rfl rfl (fun wd hS => ?_)) (.inl (by kernel_rfl)) ?_
    · exact wp_load_row 95 _ rfl ((B + 1)) rfl 95 #[.int .i64 x0, .int .i64 x1, .int .i64 x2, .int .i64 x3] (0, 0) _ (hS.heap 3 rfl) Try.underlying95 rfl (by kernel_rfl) ⟨rfl, Below.refl _ _⟩
    simp only [act_norm]
    refine wpAnyE_take 1 rfl (by kernel_rfl) (by kernel_rfl) (by kernel_rfl) (fun _ _ _ h => h) hst (EffB.pure rfl (fun _ => rfl)) (.inr (EffB.pure rfl (fun _ => rfl))) ?_
    simp only [act_norm]
    refine wpAnyE_take 2 (v := .int .i64 u1) rfl (by kernel_rfl) (by kernel_rfl) (by kernel_rfl) (fun _ _ _ h => h) hst (EffB.run rfl rfl (fun wd hS => ?_)) (.inl (by kernel_rfl)) ?_
    · (go_wp2_with fail; (with_reducible refine (F3.out _).mono ?_); rintro e w'' ⟨rfl, hb⟩; exact ⟨rfl, hb⟩)
    simp only [act_norm]
    refine wpAnyE_take 3 (v := .agg #[.int .i64 x0, .int .i64 x1, .int .i64 x2, .int .i64 x3]) rfl (by kernel_rfl) (by kernel_rfl) (by kernel_rfl) (fun _ _ _ h => h) hst (EffB.run rfl rfl (fun wd hS => ?_)) (.inl (by kernel_rfl)) ?_
    · exact wp_load_row 94 _ rfl (w.heap.size) rfl 94 #[.int .i64 x0, .int .i64 x1, .int .i64 x2, .int .i64 x3] (0, 0) _ (hS.heap 0 rfl) Try.underlying94 rfl (by kernel_rfl) ⟨rfl, Below.refl _ _⟩
    simp only [act_norm]
    refine wpAnyE_take 4 rfl (by kernel_rfl) (by kernel_rfl) (by kernel_rfl) (fun _ _ _ h => h) hst (EffB.pure rfl (fun _ => rfl)) (.inr (EffB.pure rfl (fun _ => rfl))) ?_
    simp only [act_norm]
    refine wpAnyE_take 5 (v := .int .i64 u1) rfl (by kernel_rfl) (by kernel_rfl) (by kernel_rfl) (fun _ _ _ h => h) hst (EffB.run rfl rfl (fun wd hS => ?_)) (.inl (by kernel_rfl)) ?_
    · (go_wp2_with fail; (with_reducible refine (F4.out _).mono ?_); rintro e w'' ⟨rfl, hb⟩; exact ⟨rfl, hb⟩)
    simp only [act_norm]
    refine wpAnyE_take 6 (v := .bool true) rfl (by kernel_rfl) (by kernel_rfl) (by kernel_rfl) (fun _ _ _ h => h) hst (EffB.run rfl rfl (fun wd hS => ?_)) (.inr (EffB.run rfl rfl (fun wd hS => ?_))) ?_
    · (go_wp2; exact ⟨rfl, Below.refl _ _⟩)
    · (go_wp2; exact ⟨rfl, Below.refl _ _⟩)
    simp only [act_norm]
    refine wpAnyE_take 7 rfl (by kernel_rfl) (by kernel_rfl) (by kernel_rfl) (fun _ _ _ h => h) hst (EffB.pure rfl (fun _ => rfl)) (.inr (EffB.pure rfl (fun _ => rfl))) ?_
    simp only [act_norm]
    refine wpAnyE_take 8 (v := .agg #[.int .i64 x0, .int .i64 x1, .int .i64 x2, .int .i64 x3]) rfl (by kernel_rfl) (by kernel_rfl) (by kernel_rfl) (fun _ _ _ h => h) hst (EffB.run rfl rfl (fun wd hS => ?_)) (.inl (by kernel_rfl)) ?_
    · exact wp_load_row 95 _ rfl ((B + 1)) rfl 95 #[.int .i64 x0, .int .i64 x1, .int .i64 x2, .int .i64 x3] (0, 0) _ (hS.heap 3 rfl) Try.underlying95 rfl (by kernel_rfl) ⟨rfl, Below.refl _ _⟩
    simp only [act_norm]
    refine wpAnyE_take 9 (v := .bool true) rfl (by kernel_rfl) (by kernel_rfl) (by kernel_rfl) (fun _ _ _ h => h) hst (EffB.run rfl rfl (fun wd hS => ?_)) (.inl (by kernel_rfl)) ?_
    · (go_wp2_with fail; (with_reducible refine (F7.out _).mono ?_); rintro e w'' ⟨rfl, hb⟩; exact ⟨rfl, hb⟩)
    simp only [act_norm]
    refine wpAnyE_take 10 (v := .pointer (some ⟨w.heap.size, 3, none⟩)) rfl (by kernel_rfl) (by kernel_rfl) (by kernel_rfl) (fun _ _ _ h => h) hst (EffB.run rfl rfl (fun wd hS => ?_)) (.inr (EffB.run rfl rfl (fun wd hS => ?_))) ?_
    · (go_wp2; exact ⟨rfl, Below.refl _ _⟩)
    · (go_wp2; exact ⟨rfl, Below.refl _ _⟩)
    simp only [act_norm]
    refine wpAnyE_take 11 (v := .int .i64 x3) rfl (by kernel_rfl) (by kernel_rfl) (by kernel_rfl) (fun _ _ _ h => h) hst (EffB.run rfl rfl (fun wd hS => ?_)) (.inl (by kernel_rfl)) ?_
    · (have c2 : wd.cell? ⟨w.heap.size, 3, none⟩ = some (.int .i64 x3) := by rw [cell_of_row _ _ _ _ _ _ (hS.heap 0 rfl)]; rfl); go_wp2; exact ⟨rfl, Below.refl _ _⟩
    simp only [act_norm]
    refine wpAnyE_take 12 (v := .bool true) rfl (by kernel_rfl) (by kernel_rfl) (by kernel_rfl) (fun _ _ _ h => h) hst (EffB.run rfl rfl (fun wd hS => ?_)) (.inr (EffB.run rfl rfl (fun wd hS => ?_))) ?_
    · (go_wp2; exact ⟨rfl, Below.refl _ _⟩)
    · (go_wp2; exact ⟨rfl, Below.refl _ _⟩)
    simp only [act_norm]
    refine wpAnyE_take 13 rfl (by kernel_rfl) (by kernel_rfl) (by kernel_rfl) (fun _ _ _ h => h) hst (EffB.pure rfl (fun _ => rfl)) (.inr (EffB.pure rfl (fun _ => rfl))) ?_
    simp only [act_norm]
    refine wpAnyE_take 14 (v := .pointer (some ⟨w.heap.size, 2, none⟩)) rfl (by kernel_rfl) (by kernel_rfl) (by kernel_rfl) (fun _ _ _ h => h) hst (EffB.run rfl rfl (fun wd hS => ?_)) (.inr (EffB.run rfl rfl (fun wd hS => ?_))) ?_
    · (go_wp2; exact ⟨rfl, Below.refl _ _⟩)
    · (go_wp2; exact ⟨rfl, Below.refl _ _⟩)
    simp only [act_norm]
    refine wpAnyE_take 15 (v := .int .i64 x2) rfl (by kernel_rfl) (by kernel_rfl) (by kernel_rfl) (fun _ _ _ h => h) hst (EffB.run rfl rfl (fun wd hS => ?_)) (.inl (by kernel_rfl)) ?_
    · (have c2 : wd.cell? ⟨w.heap.size, 2, none⟩ = some (.int .i64 x2) := by rw [cell_of_row _ _ _ _ _ _ (hS.heap 0 rfl)]; rfl); go_wp2; exact ⟨rfl, Below.refl _ _⟩
    simp only [act_norm]
    refine wpAnyE_take 16 (v := .bool true) rfl (by kernel_rfl) (by kernel_rfl) (by kernel_rfl) (fun _ _ _ h => h) hst (EffB.run rfl rfl (fun wd hS => ?_)) (.inr (EffB.run rfl rfl (fun wd hS => ?_))) ?_
    · (go_wp2; exact ⟨rfl, Below.refl _ _⟩)
    · (go_wp2; exact ⟨rfl, Below.refl _ _⟩)
    simp only [act_norm]
    refine wpAnyE_take 17 (v := .bool true) rfl (by kernel_rfl) (by kernel_rfl) (by kernel_rfl) (fun _ _ _ h => h) hst (EffB.run rfl rfl (fun wd hS => ?_)) (.inr (EffB.run rfl rfl (fun wd hS => ?_))) ?_
    · (go_wp2; exact ⟨rfl, Below.refl _ _⟩)
    · (go_wp2; exact ⟨rfl, Below.refl _ _⟩)
    simp only [act_norm]
    refine wpAnyE_take 18 (v := .bool true) rfl (by kernel_rfl) (by kernel_rfl) (by kernel_rfl) (fun _ _ _ h => h) hst (EffB.run rfl rfl (fun wd hS => ?_)) (.inr (EffB.run rfl rfl (fun wd hS => ?_))) ?_
    · (go_wp2; exact ⟨rfl, Below.refl _ _⟩)
    · (go_wp2; exact ⟨rfl, Below.refl _ _⟩)
    simp only [act_norm]
    refine wpAnyE_take 19 (v := .bool true) rfl (by kernel_rfl) (by kernel_rfl) (by kernel_rfl) (fun _ _ _ h => h) hst (EffB.run rfl rfl (fun wd hS => ?_)) (.inr (EffB.run rfl rfl (fun wd hS => ?_))) ?_
    · (go_wp2; exact ⟨rfl, Below.refl _ _⟩)
    · (go_wp2; exact ⟨rfl, Below.refl _ _⟩)
    simp only [act_norm]
    refine wpAnyE_take 20 rfl (by kernel_rfl) (by kernel_rfl) (by kernel_rfl) (fun _ _ _ h => h) hst (EffB.pure rfl (fun _ => rfl)) (.inr (EffB.pure rfl (fun _ => rfl))) ?_
    simp only [act_norm]
    refine wpAnyE_take 21 (v := .agg #[.int .i64 y0, .int .i64 y1, .int .i64 y2, .int .i64 y3]) rfl (by kernel_rfl) (by kernel_rfl) (by kernel_rfl) (fun _ _ _ h => h) hst (EffB.run rfl rfl (fun wd hS => ?_)) (.inl (by kernel_rfl)) ?_
    · exact wp_load_row 95 _ rfl (A) rfl 95 #[.int .i64 y0, .int .i64 y1, .int .i64 y2, .int .i64 y3] (0, 0) _ (hS.heap 1 rfl) Try.underlying95 rfl (by kernel_rfl) ⟨rfl, Below.refl _ _⟩
    simp only [act_norm]
    refine wpAnyE_take 22 rfl (by kernel_rfl) (by kernel_rfl) (by kernel_rfl) (fun _ _ _ h => h) hst (EffB.pure rfl (fun _ => rfl)) (.inr (EffB.pure rfl (fun _ => rfl))) ?_
    simp only [act_norm]
    refine wpAnyE_take 23 (v := .int .i64 u2) rfl (by kernel_rfl) (by kernel_rfl) (by kernel_rfl) (fun _ _ _ h => h) hst (EffB.run rfl rfl (fun wd hS => ?_)) (.inl (by kernel_rfl)) ?_
    · (go_wp2_with fail; (with_reducible refine (F5.out _).mono ?_); rintro e w'' ⟨rfl, hb⟩; exact ⟨rfl, hb⟩)
    simp only [act_norm]
    refine wpAnyE_take 24 (v := .agg #[.int .i64 y0, .int .i64 y1, .int .i64 y2, .int .i64 y3]) rfl (by kernel_rfl) (by kernel_rfl) (by kernel_rfl) (fun _ _ _ h => h) hst (EffB.run rfl rfl (fun wd hS => ?_)) (.inl (by kernel_rfl)) ?_
    · exact wp_load_row 94 _ rfl (B) rfl 94 #[.int .i64 y0, .int .i64 y1, .int .i64 y2, .int .i64 y3] (0, 0) _ (hS.heap 2 rfl) Try.underlying94 rfl (by kernel_rfl) ⟨rfl, Below.refl _ _⟩
    simp only [act_norm]
    refine wpAnyE_take 25 rfl (by kernel_rfl) (by kernel_rfl) (by kernel_rfl) (fun _ _ _ h => h) hst (EffB.pure rfl (fun _ => rfl)) (.inr (EffB.pure rfl (fun _ => rfl))) ?_
    simp only [act_norm]
    refine wpAnyE_take 26 (v := .int .i64 u2) rfl (by kernel_rfl) (by kernel_rfl) (by kernel_rfl) (fun _ _ _ h => h) hst (EffB.run rfl rfl (fun wd hS => ?_)) (.inl (by kernel_rfl)) ?_
    · (go_wp2_with fail; (with_reducible refine (F6.out _).mono ?_); rintro e w'' ⟨rfl, hb⟩; exact ⟨rfl, hb⟩)
    simp only [act_norm]
    refine wpAnyE_take 27 (v := .bool true) rfl (by kernel_rfl) (by kernel_rfl) (by kernel_rfl) (fun _ _ _ h => h) hst (EffB.run rfl rfl (fun wd hS => ?_)) (.inr (EffB.run rfl rfl (fun wd hS => ?_))) ?_
    · (go_wp2; exact ⟨rfl, Below.refl _ _⟩)
    · (go_wp2; exact ⟨rfl, Below.refl _ _⟩)
    simp only [act_norm]
    refine wpAnyE_take 28 (v := .bool true) rfl (by kernel_rfl) (by kernel_rfl) (by kernel_rfl) (fun _ _ _ h => h) hst (EffB.run rfl rfl (fun wd hS => ?_)) (.inr (EffB.run rfl rfl (fun wd hS => ?_))) ?_
    · (go_wp2; exact ⟨rfl, Below.refl _ _⟩)
    · (go_wp2; exact ⟨rfl, Below.refl _ _⟩)
    simp only [act_norm]
    refine wpAnyE_take 29 rfl (by kernel_rfl) (by kernel_rfl) (by kernel_rfl) (fun _ _ _ h => h) hst (EffB.pure rfl (fun _ => rfl)) (.inr (EffB.pure rfl (fun _ => rfl))) ?_
    simp only [act_norm]
    refine wpAnyE_done (by kernel_rfl) (fun wd hS => ?_) _
    have MF := Lib.hid hS
    clear hS hst
    go_wp2
    go_ret
    exact ⟨rfl, MF.out.below⟩
  · have e3 : decide (0 < x3) = true := decide_eq_true r3
    have e2 : decide (0 < x2) = false := decide_eq_false r2
    clear hbool
    simp only [e3, e2, Bool.and_true, Bool.true_and, Bool.false_and, Bool.and_false, Bool.and_self] at F7
    go_enter Try.func12, Try.ntmps12
    go_wp2_with fail
    (with_reducible refine (awake52 _).mono ?_)
    rintro e w1 ⟨rfl, hb1⟩
    have M1 := Lib.hid (((Mem.start w).alloc (.cells #[.int .i64 x0, .int .i64 x1, .int .i64 x2, .int .i64 x3] 94)).call hb1)
    clear hb1
    go_wp2_with fail
    (with_reducible refine (F1.out _ (HS.out.below M1.out.below)).mono ?_)
    rintro e w2 ⟨rfl, hb2⟩
    have M2 := Lib.hid ((M1.out.call hb2).alloc (.cells #[.int .i64 y0, .int .i64 y1, .int .i64 y2, .int .i64 y3] 95))
    clear hb2 M1 F1
    go_wp2_with fail
    obtain ⟨A, hA⟩ : ∃ Y, w2.heap.size = Y := ⟨_, rfl⟩
    rw [hA] at M2
    try rw [hA]
    (with_reducible refine (F2.out _ (HS.out.below M2.out.below)).mono ?_)
    rintro e w3 ⟨rfl, hb3⟩
    have M3 := Lib.hid ((M2.out.call hb3).alloc (.cells #[.int .i64 y0, .int .i64 y1, .int .i64 y2, .int .i64 y3] 94))
    clear hb3 M2 F2 hA
    obtain ⟨B, hB⟩ : ∃ Y, w3.heap.size = Y := ⟨_, rfl⟩
    rw [hB] at M3
    have K0 := Lib.hid (M3.out.heap 0 rfl)
    have K1 := Lib.hid (M3.out.heap 1 rfl)
    have K2 := Lib.hid (M3.out.heap 2 rfl)
    have c3 := M3.out.cell 1 3 rfl rfl
    have M4 := Lib.hid (M3.out.allocAs (B + 1) (.cells #[.int .i64 x0, .int .i64 x1, .int .i64 x2, .int .i64 x3] 95) (by rw [World.size_alloc, hB]))
    clear M3
    go_wp2_with (first | ((with_reducible refine wpList_load_rowAs rfl 95 _ rfl (A) ?_ 95 #[.int .i64 y0, .int .i64 y1, .int .i64 y2, .int .i64 y3] (0, 0) _ 4 ?_ Try.underlying95 rfl (by kernel_rfl) ?_ ?_); exact rfl; exact K1.out; exact rfl) | ((with_reducible refine wpList_load_rowAs rfl 94 _ rfl (B) ?_ 94 #[.int .i64 y0, .int .i64 y1, .int .i64 y2, .int .i64 y3] (0, 0) _ 4 ?_ Try.underlying94 rfl (by kernel_rfl) ?_ ?_); exact rfl; exact K2.out; exact rfl) | (with_reducible refine wpList_neq_agg rfl _ _ _ _ rfl _ _ rfl rfl true (by kernel_rfl) (HQ.out _) ?_) | ((with_reducible refine wpList_load_rowAs rfl 94 _ rfl (w.heap.size) ?_ 94 #[.int .i64 x0, .int .i64 x1, .int .i64 x2, .int .i64 x3] (0, 0) _ 4 ?_ Try.underlying94 rfl (by kernel_rfl) ?_ ?_); exact rfl; exact K0.out; exact rfl))
    try rw [hB]
    have hst := stab_mem (w := w) (bs := [(w.heap.size, .cells #[.int .i64 x0, .int .i64 x1, .int .i64 x2, .int .i64 x3] 94), (A, .cells #[.int .i64 y0, .int .i64 y1, .int .i64 y2, .int .i64 y3] 95), (B, .cells #[.int .i64 y0, .int .i64 y1, .int .i64 y2, .int .i64 y3] 94), (B + 1, .cells #[.int .i64 x0, .int .i64 x1, .int .i64 x2, .int .i64 x3] 95)])
    refine wp_region_E mixed [] hst (M4.out.drewN 1) ?_
    clear K0 K1 K2 c3 M4 hB
    refine wpAnyE_take 0 (v := .agg #[.int .i64 x0, .int .i64 x1, .int .i64 x2, .int .i64 x3]) rfl (by kernel_rfl) (by kernel_rfl) (by kernel_rfl) (fun _ _ _ h => h) hst (EffB.run rfl rfl (fun wd hS => ?_)) (.inl (by kernel_rfl)) ?_
    · exact wp_load_row 95 _ rfl ((B + 1)) rfl 95 #[.int .i64 x0, .int .i64 x1, .int .i64 x2, .int .i64 x3] (0, 0) _ (hS.heap 3 rfl) Try.underlying95 rfl (by kernel_rfl) ⟨rfl, Below.refl _ _⟩
    simp only [act_norm]
    refine wpAnyE_take 1 rfl (by kernel_rfl) (by kernel_rfl) (by kernel_rfl) (fun _ _ _ h => h) hst (EffB.pure rfl (fun _ => rfl)) (.inr (EffB.pure rfl (fun _ => rfl))) ?_
    simp only [act_norm]
    refine wpAnyE_take 2 (v := .int .i64 u1) rfl (by kernel_rfl) (by kernel_rfl) (by kernel_rfl) (fun _ _ _ h => h) hst (EffB.run rfl rfl (fun wd hS => ?_)) (.inl (by kernel_rfl)) ?_
    · (go_wp2_with fail; (with_reducible refine (F3.out _).mono ?_); rintro e w'' ⟨rfl, hb⟩; exact ⟨rfl, hb⟩)
    simp only [act_norm]
    refine wpAnyE_take 3 (v := .agg #[.int .i64 x0, .int .i64 x1, .int .i64 x2, .int .i64 x3]) rfl (by kernel_rfl) (by kernel_rfl) (by kernel_rfl) (fun _ _ _ h => h) hst (EffB.run rfl rfl (fun wd hS => ?_)) (.inl (by kernel_rfl)) ?_
    · exact wp_load_row 94 _ rfl (w.heap.size) rfl 94 #[.int .i64 x0, .int .i64 x1, .int .i64 x2, .int .i64 x3] (0, 0) _ (hS.heap 0 rfl) Try.underlying94 rfl (by kernel_rfl) ⟨rfl, Below.refl _ _⟩
    simp only [act_norm]
    refine wpAnyE_take 4 rfl (by kernel_rfl) (by kernel_rfl) (by kernel_rfl) (fun _ _ _ h => h) hst (EffB.pure rfl (fun _ => rfl)) (.inr (EffB.pure rfl (fun _ => rfl))) ?_
    simp only [act_norm]
    refine wpAnyE_take 5 (v := .int .i64 u1) rfl (by kernel_rfl) (by kernel_rfl) (by kernel_rfl) (fun _ _ _ h => h) hst (EffB.run rfl rfl (fun wd hS => ?_)) (.inl (by kernel_rfl)) ?_
    · (go_wp2_with fail; (with_reducible refine (F4.out _).mono ?_); rintro e w'' ⟨rfl, hb⟩; exact ⟨rfl, hb⟩)
    simp only [act_norm]
    refine wpAnyE_take 6 (v := .bool true) rfl (by kernel_rfl) (by kernel_rfl) (by kernel_rfl) (fun _ _ _ h => h) hst (EffB.run rfl rfl (fun wd hS => ?_)) (.inr (EffB.run rfl rfl (fun wd hS => ?_))) ?_
    · (go_wp2; exact ⟨rfl, Below.refl _ _⟩)
    · (go_wp2; exact ⟨rfl, Below.refl _ _⟩)
    simp only [act_norm]
    refine wpAnyE_take 7 rfl (by kernel_rfl) (by kernel_rfl) (by kernel_rfl) (fun _ _ _ h => h) hst (EffB.pure rfl (fun _ => rfl)) (.inr (EffB.pure rfl (fun _ => rfl))) ?_
    simp only [act_norm]
    refine wpAnyE_take 8 (v := .agg #[.int .i64 x0, .int .i64 x1, .int .i64 x2, .int .i64 x3]) rfl (by kernel_rfl) (by kernel_rfl) (by kernel_rfl) (fun _ _ _ h => h) hst (EffB.run rfl rfl (fun wd hS => ?_)) (.inl (by kernel_rfl)) ?_
    · exact wp_load_row 95 _ rfl ((B + 1)) rfl 95 #[.int .i64 x0, .int .i64 x1, .int .i64 x2, .int .i64 x3] (0, 0) _ (hS.heap 3 rfl) Try.underlying95 rfl (by kernel_rfl) ⟨rfl, Below.refl _ _⟩
    simp only [act_norm]
    refine wpAnyE_take 9 (v := .bool false) rfl (by kernel_rfl) (by kernel_rfl) (by kernel_rfl) (fun _ _ _ h => h) hst (EffB.run rfl rfl (fun wd hS => ?_)) (.inl (by kernel_rfl)) ?_
    · (go_wp2_with fail; (with_reducible refine (F7.out _).mono ?_); rintro e w'' ⟨rfl, hb⟩; exact ⟨rfl, hb⟩)
    simp only [act_norm]
    refine wpAnyE_take 10 (v := .pointer (some ⟨w.heap.size, 3, none⟩)) rfl (by kernel_rfl) (by kernel_rfl) (by kernel_rfl) (fun _ _ _ h => h) hst (EffB.run rfl rfl (fun wd hS => ?_)) (.inr (EffB.run rfl rfl (fun wd hS => ?_))) ?_
    · (go_wp2; exact ⟨rfl, Below.refl _ _⟩)
    · (go_wp2; exact ⟨rfl, Below.refl _ _⟩)
    simp only [act_norm]
    refine wpAnyE_take 11 (v := .int .i64 x3) rfl (by kernel_rfl) (by kernel_rfl) (by kernel_rfl) (fun _ _ _ h => h) hst (EffB.run rfl rfl (fun wd hS => ?_)) (.inl (by kernel_rfl)) ?_
    · (have c2 : wd.cell? ⟨w.heap.size, 3, none⟩ = some (.int .i64 x3) := by rw [cell_of_row _ _ _ _ _ _ (hS.heap 0 rfl)]; rfl); go_wp2; exact ⟨rfl, Below.refl _ _⟩
    simp only [act_norm]
    refine wpAnyE_take 12 (v := .bool true) rfl (by kernel_rfl) (by kernel_rfl) (by kernel_rfl) (fun _ _ _ h => h) hst (EffB.run rfl rfl (fun wd hS => ?_)) (.inr (EffB.run rfl rfl (fun wd hS => ?_))) ?_
    · (go_wp2; exact ⟨rfl, Below.refl _ _⟩)
    · (go_wp2; exact ⟨rfl, Below.refl _ _⟩)
    simp only [act_norm]
    refine wpAnyE_take 13 rfl (by kernel_rfl) (by kernel_rfl) (by kernel_rfl) (fun _ _ _ h => h) hst (EffB.pure rfl (fun _ => rfl)) (.inr (EffB.pure rfl (fun _ => rfl))) ?_
    simp only [act_norm]
    refine wpAnyE_take 14 (v := .pointer (some ⟨w.heap.size, 2, none⟩)) rfl (by kernel_rfl) (by kernel_rfl) (by kernel_rfl) (fun _ _ _ h => h) hst (EffB.run rfl rfl (fun wd hS => ?_)) (.inr (EffB.run rfl rfl (fun wd hS => ?_))) ?_
    · (go_wp2; exact ⟨rfl, Below.refl _ _⟩)
    · (go_wp2; exact ⟨rfl, Below.refl _ _⟩)
    simp only [act_norm]
    refine wpAnyE_take 15 (v := .int .i64 x2) rfl (by kernel_rfl) (by kernel_rfl) (by kernel_rfl) (fun _ _ _ h => h) hst (EffB.run rfl rfl (fun wd hS => ?_)) (.inl (by kernel_rfl)) ?_
    · (have c2 : wd.cell? ⟨w.heap.size, 2, none⟩ = some (.int .i64 x2) := by rw [cell_of_row _ _ _ _ _ _ (hS.heap 0 rfl)]; rfl); go_wp2; exact ⟨rfl, Below.refl _ _⟩
    simp only [act_norm]
    refine wpAnyE_take 16 (v := .bool false) rfl (by kernel_rfl) (by kernel_rfl) (by kernel_rfl) (fun _ _ _ h => h) hst (EffB.run rfl rfl (fun wd hS => ?_)) (.inr (EffB.run rfl rfl (fun wd hS => ?_))) ?_
    · (go_wp2; exact ⟨rfl, Below.refl _ _⟩)
    · (go_wp2; exact ⟨rfl, Below.refl _ _⟩)
    simp only [act_norm]
    refine wpAnyE_take 17 (v := .bool false) rfl (by kernel_rfl) (by kernel_rfl) (by kernel_rfl) (fun _ _ _ h => h) hst (EffB.run rfl rfl (fun wd hS => ?_)) (.inr (EffB.run rfl rfl (fun wd hS => ?_))) ?_
    · (go_wp2; exact ⟨rfl, Below.refl _ _⟩)
    · (go_wp2; exact ⟨rfl, Below.refl _ _⟩)
    simp only [act_norm]
    refine wpAnyE_take 18 (v := .bool true) rfl (by kernel_rfl) (by kernel_rfl) (by kernel_rfl) (fun _ _ _ h => h) hst (EffB.run rfl rfl (fun wd hS => ?_)) (.inr (EffB.run rfl rfl (fun wd hS => ?_))) ?_
    · (go_wp2; exact ⟨rfl, Below.refl _ _⟩)
    · (go_wp2; exact ⟨rfl, Below.refl _ _⟩)
    simp only [act_norm]
    refine wpAnyE_take 19 (v := .bool true) rfl (by kernel_rfl) (by kernel_rfl) (by kernel_rfl) (fun _ _ _ h => h) hst (EffB.run rfl rfl (fun wd hS => ?_)) (.inr (EffB.run rfl rfl (fun wd hS => ?_))) ?_
    · (go_wp2; exact ⟨rfl, Below.refl _ _⟩)
    · (go_wp2; exact ⟨rfl, Below.refl _ _⟩)
    simp only [act_norm]
    refine wpAnyE_take 20 rfl (by kernel_rfl) (by kernel_rfl) (by kernel_rfl) (fun _ _ _ h => h) hst (EffB.pure rfl (fun _ => rfl)) (.inr (EffB.pure rfl (fun _ => rfl))) ?_
    simp only [act_norm]
    refine wpAnyE_take 21 (v := .agg #[.int .i64 y0, .int .i64 y1, .int .i64 y2, .int .i64 y3]) rfl (by kernel_rfl) (by kernel_rfl) (by kernel_rfl) (fun _ _ _ h => h) hst (EffB.run rfl rfl (fun wd hS => ?_)) (.inl (by kernel_rfl)) ?_
    · exact wp_load_row 95 _ rfl (A) rfl 95 #[.int .i64 y0, .int .i64 y1, .int .i64 y2, .int .i64 y3] (0, 0) _ (hS.heap 1 rfl) Try.underlying95 rfl (by kernel_rfl) ⟨rfl, Below.refl _ _⟩
    simp only [act_norm]
    refine wpAnyE_take 22 rfl (by kernel_rfl) (by kernel_rfl) (by kernel_rfl) (fun _ _ _ h => h) hst (EffB.pure rfl (fun _ => rfl)) (.inr (EffB.pure rfl (fun _ => rfl))) ?_
    simp only [act_norm]
    refine wpAnyE_take 23 (v := .int .i64 u2) rfl (by kernel_rfl) (by kernel_rfl) (by kernel_rfl) (fun _ _ _ h => h) hst (EffB.run rfl rfl (fun wd hS => ?_)) (.inl (by kernel_rfl)) ?_
    · (go_wp2_with fail; (with_reducible refine (F5.out _).mono ?_); rintro e w'' ⟨rfl, hb⟩; exact ⟨rfl, hb⟩)
    simp only [act_norm]
    refine wpAnyE_take 24 (v := .agg #[.int .i64 y0, .int .i64 y1, .int .i64 y2, .int .i64 y3]) rfl (by kernel_rfl) (by kernel_rfl) (by kernel_rfl) (fun _ _ _ h => h) hst (EffB.run rfl rfl (fun wd hS => ?_)) (.inl (by kernel_rfl)) ?_
    · exact wp_load_row 94 _ rfl (B) rfl 94 #[.int .i64 y0, .int .i64 y1, .int .i64 y2, .int .i64 y3] (0, 0) _ (hS.heap 2 rfl) Try.underlying94 rfl (by kernel_rfl) ⟨rfl, Below.refl _ _⟩
    simp only [act_norm]
    refine wpAnyE_take 25 rfl (by kernel_rfl) (by kernel_rfl) (by kernel_rfl) (fun _ _ _ h => h) hst (EffB.pure rfl (fun _ => rfl)) (.inr (EffB.pure rfl (fun _ => rfl))) ?_
    simp only [act_norm]
    refine wpAnyE_take 26 (v := .int .i64 u2) rfl (by kernel_rfl) (by kernel_rfl) (by kernel_rfl) (fun _ _ _ h => h) hst (EffB.run rfl rfl (fun wd hS => ?_)) (.inl (by kernel_rfl)) ?_
    · (go_wp2_with fail; (with_reducible refine (F6.out _).mono ?_); rintro e w'' ⟨rfl, hb⟩; exact ⟨rfl, hb⟩)
    simp only [act_norm]
    refine wpAnyE_take 27 (v := .bool true) rfl (by kernel_rfl) (by kernel_rfl) (by kernel_rfl) (fun _ _ _ h => h) hst (EffB.run rfl rfl (fun wd hS => ?_)) (.inr (EffB.run rfl rfl (fun wd hS => ?_))) ?_
    · (go_wp2; exact ⟨rfl, Below.refl _ _⟩)
    · (go_wp2; exact ⟨rfl, Below.refl _ _⟩)
    simp only [act_norm]
    refine wpAnyE_take 28 (v := .bool true) rfl (by kernel_rfl) (by kernel_rfl) (by kernel_rfl) (fun _ _ _ h => h) hst (EffB.run rfl rfl (fun wd hS => ?_)) (.inr (EffB.run rfl rfl (fun wd hS => ?_))) ?_
    · (go_wp2; exact ⟨rfl, Below.refl _ _⟩)
    · (go_wp2; exact ⟨rfl, Below.refl _ _⟩)
    simp only [act_norm]
    refine wpAnyE_take 29 rfl (by kernel_rfl) (by kernel_rfl) (by kernel_rfl) (fun _ _ _ h => h) hst (EffB.pure rfl (fun _ => rfl)) (.inr (EffB.pure rfl (fun _ => rfl))) ?_
    simp only [act_norm]
    refine wpAnyE_done (by kernel_rfl) (fun wd hS => ?_) _
    have MF := Lib.hid hS
    clear hS hst
    go_wp2
    go_ret
    exact ⟨rfl, MF.out.below⟩
  · have e3 : decide (0 < x3) = true := decide_eq_true r3
    have e2 : decide (0 < x2) = false := decide_eq_false r2
    have hrun : ¬ y3 < 1 := by have := hbool rfl; omega
    clear hbool
    simp only [e3, e2, Bool.and_true, Bool.true_and, Bool.false_and, Bool.and_false, Bool.and_self] at F7
    go_enter Try.func12, Try.ntmps12
    go_wp2_with fail
    (with_reducible refine (awake52 _).mono ?_)
    rintro e w1 ⟨rfl, hb1⟩
    have M1 := Lib.hid (((Mem.start w).alloc (.cells #[.int .i64 x0, .int .i64 x1, .int .i64 x2, .int .i64 x3] 94)).call hb1)
    clear hb1
    go_wp2_with fail
    (with_reducible refine (F1.out _ (HS.out.below M1.out.below)).mono ?_)
    rintro e w2 ⟨rfl, hb2⟩
    have M2 := Lib.hid ((M1.out.call hb2).alloc (.cells #[.int .i64 y0, .int .i64 y1, .int .i64 y2, .int .i64 y3] 95))
    clear hb2 M1 F1
    go_wp2_with fail
    obtain ⟨A, hA⟩ : ∃ Y, w2.heap.size = Y := ⟨_, rfl⟩
    rw [hA] at M2
    try rw [hA]
    (with_reducible refine (F2.out _ (HS.out.below M2.out.below)).mono ?_)
    rintro e w3 ⟨rfl, hb3⟩
    have M3 := Lib.hid ((M2.out.call hb3).alloc (.cells #[.int .i64 y0, .int .i64 y1, .int .i64 y2, .int .i64 y3] 94))
    clear hb3 M2 F2 hA
    obtain ⟨B, hB⟩ : ∃ Y, w3.heap.size = Y := ⟨_, rfl⟩
    rw [hB] at M3
    have K0 := Lib.hid (M3.out.heap 0 rfl)
    have K1 := Lib.hid (M3.out.heap 1 rfl)
    have K2 := Lib.hid (M3.out.heap 2 rfl)
    have c3 := M3.out.cell 1 3 rfl rfl
    have M4 := Lib.hid (M3.out.allocAs (B + 1) (.cells #[.int .i64 x0, .int .i64 x1, .int .i64 x2, .int .i64 x3] 95) (by rw [World.size_alloc, hB]))
    clear M3
    go_wp2_with (first | ((with_reducible refine wpList_load_rowAs rfl 95 _ rfl (A) ?_ 95 #[.int .i64 y0, .int .i64 y1, .int .i64 y2, .int .i64 y3] (0, 0) _ 4 ?_ Try.underlying95 rfl (by kernel_rfl) ?_ ?_); exact rfl; exact K1.out; exact rfl) | ((with_reducible refine wpList_load_rowAs rfl 94 _ rfl (B) ?_ 94 #[.int .i64 y0, .int .i64 y1, .int .i64 y2, .int .i64 y3] (0, 0) _ 4 ?_ Try.underlying94 rfl (by kernel_rfl) ?_ ?_); exact rfl; exact K2.out; exact rfl) | (with_reducible refine wpList_neq_agg rfl _ _ _ _ rfl _ _ rfl rfl true (by kernel_rfl) (HQ.out _) ?_) | ((with_reducible refine wpList_load_rowAs rfl 94 _ rfl (w.heap.size) ?_ 94 #[.int .i64 x0, .int .i64 x1, .int .i64 x2, .int .i64 x3] (0, 0) _ 4 ?_ Try.underlying94 rfl (by kernel_rfl) ?_ ?_); exact rfl; exact K0.out; exact rfl))
    try rw [hB]
    have hst := stab_mem (w := w) (bs := [(w.heap.size, .cells #[.int .i64 x0, .int .i64 x1, .int .i64 x2, .int .i64 x3] 94), (A, .cells #[.int .i64 y0, .int .i64 y1, .int .i64 y2, .int .i64 y3] 95), (B, .cells #[.int .i64 y0, .int .i64 y1, .int .i64 y2, .int .i64 y3] 94), (B + 1, .cells #[.int .i64 x0, .int .i64 x1, .int .i64 x2, .int .i64 x3] 95)])
    refine wp_region_E mixed [] hst (M4.out.drewN 1) ?_
    clear K0 K1 K2 c3 M4 hB
    refine wpAnyE_take 0 (v := .agg #[.int .i64 x0, .int .i64 x1, .int .i64 x2, .int .i64 x3]) rfl (by kernel_rfl) (by kernel_rfl) (by kernel_rfl) (fun _ _ _ h => h) hst (EffB.run rfl rfl (fun wd hS => ?_)) (.inl (by kernel_rfl)) ?_
    · exact wp_load_row 95 _ rfl ((B + 1)) rfl 95 #[.int .i64 x0, .int .i64 x1, .int .i64 x2, .int .i64 x3] (0, 0) _ (hS.heap 3 rfl) Try.underlying95 rfl (by kernel_rfl) ⟨rfl, Below.refl _ _⟩
    simp only [act_norm]
    refine wpAnyE_take 1 rfl (by kernel_rfl) (by kernel_rfl) (by kernel_rfl) (fun _ _ _ h => h) hst (EffB.pure rfl (fun _ => rfl)) (.inr (EffB.pure rfl (fun _ => rfl))) ?_
    simp only [act_norm]
    refine wpAnyE_take 2 (v := .int .i64 u1) rfl (by kernel_rfl) (by kernel_rfl) (by kernel_rfl) (fun _ _ _ h => h) hst (EffB.run rfl rfl (fun wd hS => ?_)) (.inl (by kernel_rfl)) ?_
    · (go_wp2_with fail; (with_reducible refine (F3.out _).mono ?_); rintro e w'' ⟨rfl, hb⟩; exact ⟨rfl, hb⟩)
    simp only [act_norm]
    refine wpAnyE_take 3 (v := .agg #[.int .i64 x0, .int .i64 x1, .int .i64 x2, .int .i64 x3]) rfl (by kernel_rfl) (by kernel_rfl) (by kernel_rfl) (fun _ _ _ h => h) hst (EffB.run rfl rfl (fun wd hS => ?_)) (.inl (by kernel_rfl)) ?_
    · exact wp_load_row 94 _ rfl (w.heap.size) rfl 94 #[.int .i64 x0, .int .i64 x1, .int .i64 x2, .int .i64 x3] (0, 0) _ (hS.heap 0 rfl) Try.underlying94 rfl (by kernel_rfl) ⟨rfl, Below.refl _ _⟩
    simp only [act_norm]
    refine wpAnyE_take 4 rfl (by kernel_rfl) (by kernel_rfl) (by kernel_rfl) (fun _ _ _ h => h) hst (EffB.pure rfl (fun _ => rfl)) (.inr (EffB.pure rfl (fun _ => rfl))) ?_
    simp only [act_norm]
    refine wpAnyE_take 5 (v := .int .i64 u1) rfl (by kernel_rfl) (by kernel_rfl) (by kernel_rfl) (fun _ _ _ h => h) hst (EffB.run rfl rfl (fun wd hS => ?_)) (.inl (by kernel_rfl)) ?_
    · (go_wp2_with fail; (with_reducible refine (F4.out _).mono ?_); rintro e w'' ⟨rfl, hb⟩; exact ⟨rfl, hb⟩)
    simp only [act_norm]
    refine wpAnyE_take 6 (v := .bool true) rfl (by kernel_rfl) (by kernel_rfl) (by kernel_rfl) (fun _ _ _ h => h) hst (EffB.run rfl rfl (fun wd hS => ?_)) (.inr (EffB.run rfl rfl (fun wd hS => ?_))) ?_
    · (go_wp2; exact ⟨rfl, Below.refl _ _⟩)
    · (go_wp2; exact ⟨rfl, Below.refl _ _⟩)
    simp only [act_norm]
    refine wpAnyE_take 7 rfl (by kernel_rfl) (by kernel_rfl) (by kernel_rfl) (fun _ _ _ h => h) hst (EffB.pure rfl (fun _ => rfl)) (.inr (EffB.pure rfl (fun _ => rfl))) ?_
    simp only [act_norm]
    refine wpAnyE_take 8 (v := .agg #[.int .i64 x0, .int .i64 x1, .int .i64 x2, .int .i64 x3]) rfl (by kernel_rfl) (by kernel_rfl) (by kernel_rfl) (fun _ _ _ h => h) hst (EffB.run rfl rfl (fun wd hS => ?_)) (.inl (by kernel_rfl)) ?_
    · exact wp_load_row 95 _ rfl ((B + 1)) rfl 95 #[.int .i64 x0, .int .i64 x1, .int .i64 x2, .int .i64 x3] (0, 0) _ (hS.heap 3 rfl) Try.underlying95 rfl (by kernel_rfl) ⟨rfl, Below.refl _ _⟩
    simp only [act_norm]
    refine wpAnyE_take 9 (v := .bool false) rfl (by kernel_rfl) (by kernel_rfl) (by kernel_rfl) (fun _ _ _ h => h) hst (EffB.run rfl rfl (fun wd hS => ?_)) (.inl (by kernel_rfl)) ?_
    · (go_wp2_with fail; (with_reducible refine (F7.out _).mono ?_); rintro e w'' ⟨rfl, hb⟩; exact ⟨rfl, hb⟩)
    simp only [act_norm]
    refine wpAnyE_take 10 (v := .pointer (some ⟨w.heap.size, 3, none⟩)) rfl (by kernel_rfl) (by kernel_rfl) (by kernel_rfl) (fun _ _ _ h => h) hst (EffB.run rfl rfl (fun wd hS => ?_)) (.inr (EffB.run rfl rfl (fun wd hS => ?_))) ?_
    · (go_wp2; exact ⟨rfl, Below.refl _ _⟩)
    · (go_wp2; exact ⟨rfl, Below.refl _ _⟩)
    simp only [act_norm]
    refine wpAnyE_take 11 (v := .int .i64 x3) rfl (by kernel_rfl) (by kernel_rfl) (by kernel_rfl) (fun _ _ _ h => h) hst (EffB.run rfl rfl (fun wd hS => ?_)) (.inl (by kernel_rfl)) ?_
    · (have c2 : wd.cell? ⟨w.heap.size, 3, none⟩ = some (.int .i64 x3) := by rw [cell_of_row _ _ _ _ _ _ (hS.heap 0 rfl)]; rfl); go_wp2; exact ⟨rfl, Below.refl _ _⟩
    simp only [act_norm]
    refine wpAnyE_take 12 (v := .bool true) rfl (by kernel_rfl) (by kernel_rfl) (by kernel_rfl) (fun _ _ _ h => h) hst (EffB.run rfl rfl (fun wd hS => ?_)) (.inr (EffB.run rfl rfl (fun wd hS => ?_))) ?_
    · (go_wp2; exact ⟨rfl, Below.refl _ _⟩)
    · (go_wp2; exact ⟨rfl, Below.refl _ _⟩)
    simp only [act_norm]
    refine wpAnyE_take 13 rfl (by kernel_rfl) (by kernel_rfl) (by kernel_rfl) (fun _ _ _ h => h) hst (EffB.pure rfl (fun _ => rfl)) (.inr (EffB.pure rfl (fun _ => rfl))) ?_
    simp only [act_norm]
    refine wpAnyE_take 14 (v := .pointer (some ⟨w.heap.size, 2, none⟩)) rfl (by kernel_rfl) (by kernel_rfl) (by kernel_rfl) (fun _ _ _ h => h) hst (EffB.run rfl rfl (fun wd hS => ?_)) (.inr (EffB.run rfl rfl (fun wd hS => ?_))) ?_
    · (go_wp2; exact ⟨rfl, Below.refl _ _⟩)
    · (go_wp2; exact ⟨rfl, Below.refl _ _⟩)
    simp only [act_norm]
    refine wpAnyE_take 15 (v := .int .i64 x2) rfl (by kernel_rfl) (by kernel_rfl) (by kernel_rfl) (fun _ _ _ h => h) hst (EffB.run rfl rfl (fun wd hS => ?_)) (.inl (by kernel_rfl)) ?_
    · (have c2 : wd.cell? ⟨w.heap.size, 2, none⟩ = some (.int .i64 x2) := by rw [cell_of_row _ _ _ _ _ _ (hS.heap 0 rfl)]; rfl); go_wp2; exact ⟨rfl, Below.refl _ _⟩
    simp only [act_norm]
    refine wpAnyE_take 16 (v := .bool false) rfl (by kernel_rfl) (by kernel_rfl) (by kernel_rfl) (fun _ _ _ h => h) hst (EffB.run rfl rfl (fun wd hS => ?_)) (.inr (EffB.run rfl rfl (fun wd hS => ?_))) ?_
    · (go_wp2; exact ⟨rfl, Below.refl _ _⟩)
    · (go_wp2; exact ⟨rfl, Below.refl _ _⟩)
    simp only [act_norm]
    refine wpAnyE_take 17 (v := .bool false) rfl (by kernel_rfl) (by kernel_rfl) (by kernel_rfl) (fun _ _ _ h => h) hst (EffB.run rfl rfl (fun wd hS => ?_)) (.inr (EffB.run rfl rfl (fun wd hS => ?_))) ?_
    · (go_wp2; exact ⟨rfl, Below.refl _ _⟩)
    · (go_wp2; exact ⟨rfl, Below.refl _ _⟩)
    simp only [act_norm]
    refine wpAnyE_take 18 (v := .bool true) rfl (by kernel_rfl) (by kernel_rfl) (by kernel_rfl) (fun _ _ _ h => h) hst (EffB.run rfl rfl (fun wd hS => ?_)) (.inr (EffB.run rfl rfl (fun wd hS => ?_))) ?_
    · (go_wp2; exact ⟨rfl, Below.refl _ _⟩)
    · (go_wp2; exact ⟨rfl, Below.refl _ _⟩)
    simp only [act_norm]
    refine wpAnyE_take 19 (v := .bool true) rfl (by kernel_rfl) (by kernel_rfl) (by kernel_rfl) (fun _ _ _ h => h) hst (EffB.run rfl rfl (fun wd hS => ?_)) (.inr (EffB.run rfl rfl (fun wd hS => ?_))) ?_
    · (go_wp2; exact ⟨rfl, Below.refl _ _⟩)
    · (go_wp2; exact ⟨rfl, Below.refl _ _⟩)
    simp only [act_norm]
    refine wpAnyE_take 20 rfl (by kernel_rfl) (by kernel_rfl) (by kernel_rfl) (fun _ _ _ h => h) hst (EffB.pure rfl (fun _ => rfl)) (.inr (EffB.pure rfl (fun _ => rfl))) ?_
    simp only [act_norm]
    refine wpAnyE_take 21 (v := .agg #[.int .i64 y0, .int .i64 y1, .int .i64 y2, .int .i64 y3]) rfl (by kernel_rfl) (by kernel_rfl) (by kernel_rfl) (fun _ _ _ h => h) hst (EffB.run rfl rfl (fun wd hS => ?_)) (.inl (by kernel_rfl)) ?_
    · exact wp_load_row 95 _ rfl (A) rfl 95 #[.int .i64 y0, .int .i64 y1, .int .i64 y2, .int .i64 y3] (0, 0) _ (hS.heap 1 rfl) Try.underlying95 rfl (by kernel_rfl) ⟨rfl, Below.refl _ _⟩
    simp only [act_norm]
    refine wpAnyE_take 22 rfl (by kernel_rfl) (by kernel_rfl) (by kernel_rfl) (fun _ _ _ h => h) hst (EffB.pure rfl (fun _ => rfl)) (.inr (EffB.pure rfl (fun _ => rfl))) ?_
    simp only [act_norm]
    refine wpAnyE_take 23 (v := .int .i64 u2) rfl (by kernel_rfl) (by kernel_rfl) (by kernel_rfl) (fun _ _ _ h => h) hst (EffB.run rfl rfl (fun wd hS => ?_)) (.inl (by kernel_rfl)) ?_
    · (go_wp2_with fail; (with_reducible refine (F5.out _).mono ?_); rintro e w'' ⟨rfl, hb⟩; exact ⟨rfl, hb⟩)
    simp only [act_norm]
    refine wpAnyE_take 24 (v := .agg #[.int .i64 y0, .int .i64 y1, .int .i64 y2, .int .i64 y3]) rfl (by kernel_rfl) (by kernel_rfl) (by kernel_rfl) (fun _ _ _ h => h) hst (EffB.run rfl rfl (fun wd hS => ?_)) (.inl (by kernel_rfl)) ?_
    · exact wp_load_row 94 _ rfl (B) rfl 94 #[.int .i64 y0, .int .i64 y1, .int .i64 y2, .int .i64 y3] (0, 0) _ (hS.heap 2 rfl) Try.underlying94 rfl (by kernel_rfl) ⟨rfl, Below.refl _ _⟩
    simp only [act_norm]
    refine wpAnyE_take 25 rfl (by kernel_rfl) (by kernel_rfl) (by kernel_rfl) (fun _ _ _ h => h) hst (EffB.pure rfl (fun _ => rfl)) (.inr (EffB.pure rfl (fun _ => rfl))) ?_
    simp only [act_norm]
    refine wpAnyE_take 26 (v := .int .i64 u2) rfl (by kernel_rfl) (by kernel_rfl) (by kernel_rfl) (fun _ _ _ h => h) hst (EffB.run rfl rfl (fun wd hS => ?_)) (.inl (by kernel_rfl)) ?_
    · (go_wp2_with fail; (with_reducible refine (F6.out _).mono ?_); rintro e w'' ⟨rfl, hb⟩; exact ⟨rfl, hb⟩)
    simp only [act_norm]
    refine wpAnyE_take 27 (v := .bool true) rfl (by kernel_rfl) (by kernel_rfl) (by kernel_rfl) (fun _ _ _ h => h) hst (EffB.run rfl rfl (fun wd hS => ?_)) (.inr (EffB.run rfl rfl (fun wd hS => ?_))) ?_
    · (go_wp2; exact ⟨rfl, Below.refl _ _⟩)
    · (go_wp2; exact ⟨rfl, Below.refl _ _⟩)
    simp only [act_norm]
    refine wpAnyE_take 28 (v := .bool true) rfl (by kernel_rfl) (by kernel_rfl) (by kernel_rfl) (fun _ _ _ h => h) hst (EffB.run rfl rfl (fun wd hS => ?_)) (.inr (EffB.run rfl rfl (fun wd hS => ?_))) ?_
    · (go_wp2; exact ⟨rfl, Below.refl _ _⟩)
    · (go_wp2; exact ⟨rfl, Below.refl _ _⟩)
    simp only [act_norm]
    refine wpAnyE_take 29 rfl (by kernel_rfl) (by kernel_rfl) (by kernel_rfl) (fun _ _ _ h => h) hst (EffB.pure rfl (fun _ => rfl)) (.inr (EffB.pure rfl (fun _ => rfl))) ?_
    simp only [act_norm]
    refine wpAnyE_done (by kernel_rfl) (fun wd hS => ?_) _
    have MF := Lib.hid hS
    clear hS hst
    go_wp2
    go_ret
    exact ⟨rfl, MF.out.below⟩
  · have e3 : decide (0 < x3) = false := decide_eq_false r3
    clear hbool
    simp only [e3, Bool.and_true, Bool.true_and, Bool.false_and, Bool.and_false, Bool.and_self] at F7
    go_enter Try.func12, Try.ntmps12
    go_wp2_with fail
    (with_reducible refine (awake52 _).mono ?_)
    rintro e w1 ⟨rfl, hb1⟩
    have M1 := Lib.hid (((Mem.start w).alloc (.cells #[.int .i64 x0, .int .i64 x1, .int .i64 x2, .int .i64 x3] 94)).call hb1)
    clear hb1
    go_wp2_with fail
    (with_reducible refine (F1.out _ (HS.out.below M1.out.below)).mono ?_)
    rintro e w2 ⟨rfl, hb2⟩
    have M2 := Lib.hid ((M1.out.call hb2).alloc (.cells #[.int .i64 y0, .int .i64 y1, .int .i64 y2, .int .i64 y3] 95))
    clear hb2 M1 F1
    go_wp2_with fail
    obtain ⟨A, hA⟩ : ∃ Y, w2.heap.size = Y := ⟨_, rfl⟩
    rw [hA] at M2
    try rw [hA]
    (with_reducible refine (F2.out _ (HS.out.below M2.out.below)).mono ?_)
    rintro e w3 ⟨rfl, hb3⟩
    have M3 := Lib.hid ((M2.out.call hb3).alloc (.cells #[.int .i64 y0, .int .i64 y1, .int .i64 y2, .int .i64 y3] 94))
    clear hb3 M2 F2 hA
    obtain ⟨B, hB⟩ : ∃ Y, w3.heap.size = Y := ⟨_, rfl⟩
    rw [hB] at M3
    have K0 := Lib.hid (M3.out.heap 0 rfl)
    have K1 := Lib.hid (M3.out.heap 1 rfl)
    have K2 := Lib.hid (M3.out.heap 2 rfl)
    have c3 := M3.out.cell 1 3 rfl rfl
    have M4 := Lib.hid (M3.out.allocAs (B + 1) (.cells #[.int .i64 x0, .int .i64 x1, .int .i64 x2, .int .i64 x3] 95) (by rw [World.size_alloc, hB]))
    clear M3
    go_wp2_with (first | ((with_reducible refine wpList_load_rowAs rfl 95 _ rfl (A) ?_ 95 #[.int .i64 y0, .int .i64 y1, .int .i64 y2, .int .i64 y3] (0, 0) _ 4 ?_ Try.underlying95 rfl (by kernel_rfl) ?_ ?_); exact rfl; exact K1.out; exact rfl) | ((with_reducible refine wpList_load_rowAs rfl 94 _ rfl (B) ?_ 94 #[.int .i64 y0, .int .i64 y1, .int .i64 y2, .int .i64 y3] (0, 0) _ 4 ?_ Try.underlying94 rfl (by kernel_rfl) ?_ ?_); exact rfl; exact K2.out; exact rfl) | (with_reducible refine wpList_neq_agg rfl _ _ _ _ rfl _ _ rfl rfl true (by kernel_rfl) (HQ.out _) ?_) | ((with_reducible refine wpList_load_rowAs rfl 94 _ rfl (w.heap.size) ?_ 94 #[.int .i64 x0, .int .i64 x1, .int .i64 x2, .int .i64 x3] (0, 0) _ 4 ?_ Try.underlying94 rfl (by kernel_rfl) ?_ ?_); exact rfl; exact K0.out; exact rfl))
    try rw [hB]
    have hst := stab_mem (w := w) (bs := [(w.heap.size, .cells #[.int .i64 x0, .int .i64 x1, .int .i64 x2, .int .i64 x3] 94), (A, .cells #[.int .i64 y0, .int .i64 y1, .int .i64 y2, .int .i64 y3] 95), (B, .cells #[.int .i64 y0, .int .i64 y1, .int .i64 y2, .int .i64 y3] 94), (B + 1, .cells #[.int .i64 x0, .int .i64 x1, .int .i64 x2, .int .i64 x3] 95)])
    refine wp_region_E mixed [] hst (M4.out.drewN 1) ?_
    clear K0 K1 K2 c3 M4 hB
    refine wpAnyE_take 0 (v := .agg #[.int .i64 x0, .int .i64 x1, .int .i64 x2, .int .i64 x3]) rfl (by kernel_rfl) (by kernel_rfl) (by kernel_rfl) (fun _ _ _ h => h) hst (EffB.run rfl rfl (fun wd hS => ?_)) (.inl (by kernel_rfl)) ?_
    · exact wp_load_row 95 _ rfl ((B + 1)) rfl 95 #[.int .i64 x0, .int .i64 x1, .int .i64 x2, .int .i64 x3] (0, 0) _ (hS.heap 3 rfl) Try.underlying95 rfl (by kernel_rfl) ⟨rfl, Below.refl _ _⟩
    simp only [act_norm]
    refine wpAnyE_take 1 rfl (by kernel_rfl) (by kernel_rfl) (by kernel_rfl) (fun _ _ _ h => h) hst (EffB.pure rfl (fun _ => rfl)) (.inr (EffB.pure rfl (fun _ => rfl))) ?_
    simp only [act_norm]
    refine wpAnyE_take 2 (v := .int .i64 u1) rfl (by kernel_rfl) (by kernel_rfl) (by kernel_rfl) (fun _ _ _ h => h) hst (EffB.run rfl rfl (fun wd hS => ?_)) (.inl (by kernel_rfl)) ?_
    · (go_wp2_with fail; (with_reducible refine (F3.out _).mono ?_); rintro e w'' ⟨rfl, hb⟩; exact ⟨rfl, hb⟩)
    simp only [act_norm]
    refine wpAnyE_take 3 (v := .agg #[.int .i64 x0, .int .i64 x1, .int .i64 x2, .int .i64 x3]) rfl (by kernel_rfl) (by kernel_rfl) (by kernel_rfl) (fun _ _ _ h => h) hst (EffB.run rfl rfl (fun wd hS => ?_)) (.inl (by kernel_rfl)) ?_
    · exact wp_load_row 94 _ rfl (w.heap.size) rfl 94 #[.int .i64 x0, .int .i64 x1, .int .i64 x2, .int .i64 x3] (0, 0) _ (hS.heap 0 rfl) Try.underlying94 rfl (by kernel_rfl) ⟨rfl, Below.refl _ _⟩
    simp only [act_norm]
    refine wpAnyE_take 4 rfl (by kernel_rfl) (by kernel_rfl) (by kernel_rfl) (fun _ _ _ h => h) hst (EffB.pure rfl (fun _ => rfl)) (.inr (EffB.pure rfl (fun _ => rfl))) ?_
    simp only [act_norm]
    refine wpAnyE_take 5 (v := .int .i64 u1) rfl (by kernel_rfl) (by kernel_rfl) (by kernel_rfl) (fun _ _ _ h => h) hst (EffB.run rfl rfl (fun wd hS => ?_)) (.inl (by kernel_rfl)) ?_
    · (go_wp2_with fail; (with_reducible refine (F4.out _).mono ?_); rintro e w'' ⟨rfl, hb⟩; exact ⟨rfl, hb⟩)
    simp only [act_norm]
    refine wpAnyE_take 6 (v := .bool true) rfl (by kernel_rfl) (by kernel_rfl) (by kernel_rfl) (fun _ _ _ h => h) hst (EffB.run rfl rfl (fun wd hS => ?_)) (.inr (EffB.run rfl rfl (fun wd hS => ?_))) ?_
    · (go_wp2; exact ⟨rfl, Below.refl _ _⟩)
    · (go_wp2; exact ⟨rfl, Below.refl _ _⟩)
    simp only [act_norm]
    refine wpAnyE_take 7 rfl (by kernel_rfl) (by kernel_rfl) (by kernel_rfl) (fun _ _ _ h => h) hst (EffB.pure rfl (fun _ => rfl)) (.inr (EffB.pure rfl (fun _ => rfl))) ?_
    simp only [act_norm]
    refine wpAnyE_take 8 (v := .agg #[.int .i64 x0, .int .i64 x1, .int .i64 x2, .int .i64 x3]) rfl (by kernel_rfl) (by kernel_rfl) (by kernel_rfl) (fun _ _ _ h => h) hst (EffB.run rfl rfl (fun wd hS => ?_)) (.inl (by kernel_rfl)) ?_
    · exact wp_load_row 95 _ rfl ((B + 1)) rfl 95 #[.int .i64 x0, .int .i64 x1, .int .i64 x2, .int .i64 x3] (0, 0) _ (hS.heap 3 rfl) Try.underlying95 rfl (by kernel_rfl) ⟨rfl, Below.refl _ _⟩
    simp only [act_norm]
    refine wpAnyE_take 9 (v := .bool false) rfl (by kernel_rfl) (by kernel_rfl) (by kernel_rfl) (fun _ _ _ h => h) hst (EffB.run rfl rfl (fun wd hS => ?_)) (.inl (by kernel_rfl)) ?_
    · (go_wp2_with fail; (with_reducible refine (F7.out _).mono ?_); rintro e w'' ⟨rfl, hb⟩; exact ⟨rfl, hb⟩)
    simp only [act_norm]
    refine wpAnyE_take 10 (v := .pointer (some ⟨w.heap.size, 3, none⟩)) rfl (by kernel_rfl) (by kernel_rfl) (by kernel_rfl) (fun _ _ _ h => h) hst (EffB.run rfl rfl (fun wd hS => ?_)) (.inr (EffB.run rfl rfl (fun wd hS => ?_))) ?_
    · (go_wp2; exact ⟨rfl, Below.refl _ _⟩)
    · (go_wp2; exact ⟨rfl, Below.refl _ _⟩)
    simp only [act_norm]
    refine wpAnyE_take 11 (v := .int .i64 x3) rfl (by kernel_rfl) (by kernel_rfl) (by kernel_rfl) (fun _ _ _ h => h) hst (EffB.run rfl rfl (fun wd hS => ?_)) (.inl (by kernel_rfl)) ?_
    · (have c2 : wd.cell? ⟨w.heap.size, 3, none⟩ = some (.int .i64 x3) := by rw [cell_of_row _ _ _ _ _ _ (hS.heap 0 rfl)]; rfl); go_wp2; exact ⟨rfl, Below.refl _ _⟩
    simp only [act_norm]
    refine wpAnyE_take 12 (v := .bool false) rfl (by kernel_rfl) (by kernel_rfl) (by kernel_rfl) (fun _ _ _ h => h) hst (EffB.run rfl rfl (fun wd hS => ?_)) (.inr (EffB.run rfl rfl (fun wd hS => ?_))) ?_
    · (go_wp2; exact ⟨rfl, Below.refl _ _⟩)
    · (go_wp2; exact ⟨rfl, Below.refl _ _⟩)
    simp only [act_norm]
    refine wpAnyE_take 13 rfl (by kernel_rfl) (by kernel_rfl) (by kernel_rfl) (fun _ _ _ h => h) hst (EffB.pure rfl (fun _ => rfl)) (.inr (EffB.pure rfl (fun _ => rfl))) ?_
    simp only [act_norm]
    refine wpAnyE_take 14 rfl (by kernel_rfl) (by kernel_rfl) (by kernel_rfl) (fun _ _ _ h => h) hst (EffB.skip rfl) (.inr (EffB.skip rfl)) ?_
    simp only [act_norm]
    refine wpAnyE_take 15 rfl (by kernel_rfl) (by kernel_rfl) (by kernel_rfl) (fun _ _ _ h => h) hst (EffB.skip rfl) (.inr (EffB.skip rfl)) ?_
    simp only [act_norm]
    refine wpAnyE_take 16 rfl (by kernel_rfl) (by kernel_rfl) (by kernel_rfl) (fun _ _ _ h => h) hst (EffB.skip rfl) (.inr (EffB.skip rfl)) ?_
    simp only [act_norm]
    refine wpAnyE_take 17 (v := .bool false) rfl (by kernel_rfl) (by kernel_rfl) (by kernel_rfl) (fun _ _ _ h => h) hst (EffB.run rfl rfl (fun wd hS => ?_)) (.inr (EffB.run rfl rfl (fun wd hS => ?_))) ?_
    · (go_wp2; exact ⟨rfl, Below.refl _ _⟩)
    · (go_wp2; exact ⟨rfl, Below.refl _ _⟩)
    simp only [act_norm]
    refine wpAnyE_take 18 (v := .bool true) rfl (by kernel_rfl) (by kernel_rfl) (by kernel_rfl) (fun _ _ _ h => h) hst (EffB.run rfl rfl (fun wd hS => ?_)) (.inr (EffB.run rfl rfl (fun wd hS => ?_))) ?_
    · (go_wp2; exact ⟨rfl, Below.refl _ _⟩)
    · (go_wp2; exact ⟨rfl, Below.refl _ _⟩)
    simp only [act_norm]
    refine wpAnyE_take 19 (v := .bool true) rfl (by kernel_rfl) (by kernel_rfl) (by kernel_rfl) (fun _ _ _ h => h) hst (EffB.run rfl rfl (fun wd hS => ?_)) (.inr (EffB.run rfl rfl (fun wd hS => ?_))) ?_
    · (go_wp2; exact ⟨rfl, Below.refl _ _⟩)
    · (go_wp2; exact ⟨rfl, Below.refl _ _⟩)
    simp only [act_norm]
    refine wpAnyE_take 20 rfl (by kernel_rfl) (by kernel_rfl) (by kernel_rfl) (fun _ _ _ h => h) hst (EffB.pure rfl (fun _ => rfl)) (.inr (EffB.pure rfl (fun _ => rfl))) ?_
    simp only [act_norm]
    refine wpAnyE_take 21 (v := .agg #[.int .i64 y0, .int .i64 y1, .int .i64 y2, .int .i64 y3]) rfl (by kernel_rfl) (by kernel_rfl) (by kernel_rfl) (fun _ _ _ h => h) hst (EffB.run rfl rfl (fun wd hS => ?_)) (.inl (by kernel_rfl)) ?_
    · exact wp_load_row 95 _ rfl (A) rfl 95 #[.int .i64 y0, .int .i64 y1, .int .i64 y2, .int .i64 y3] (0, 0) _ (hS.heap 1 rfl) Try.underlying95 rfl (by kernel_rfl) ⟨rfl, Below.refl _ _⟩
    simp only [act_norm]
    refine wpAnyE_take 22 rfl (by kernel_rfl) (by kernel_rfl) (by kernel_rfl) (fun _ _ _ h => h) hst (EffB.pure rfl (fun _ => rfl)) (.inr (EffB.pure rfl (fun _ => rfl))) ?_
    simp only [act_norm]
    refine wpAnyE_take 23 (v := .int .i64 u2) rfl (by kernel_rfl) (by kernel_rfl) (by kernel_rfl) (fun _ _ _ h => h) hst (EffB.run rfl rfl (fun wd hS => ?_)) (.inl (by kernel_rfl)) ?_
    · (go_wp2_with fail; (with_reducible refine (F5.out _).mono ?_); rintro e w'' ⟨rfl, hb⟩; exact ⟨rfl, hb⟩)
    simp only [act_norm]
    refine wpAnyE_take 24 (v := .agg #[.int .i64 y0, .int .i64 y1, .int .i64 y2, .int .i64 y3]) rfl (by kernel_rfl) (by kernel_rfl) (by kernel_rfl) (fun _ _ _ h => h) hst (EffB.run rfl rfl (fun wd hS => ?_)) (.inl (by kernel_rfl)) ?_
    · exact wp_load_row 94 _ rfl (B) rfl 94 #[.int .i64 y0, .int .i64 y1, .int .i64 y2, .int .i64 y3] (0, 0) _ (hS.heap 2 rfl) Try.underlying94 rfl (by kernel_rfl) ⟨rfl, Below.refl _ _⟩
    simp only [act_norm]
    refine wpAnyE_take 25 rfl (by kernel_rfl) (by kernel_rfl) (by kernel_rfl) (fun _ _ _ h => h) hst (EffB.pure rfl (fun _ => rfl)) (.inr (EffB.pure rfl (fun _ => rfl))) ?_
    simp only [act_norm]
    refine wpAnyE_take 26 (v := .int .i64 u2) rfl (by kernel_rfl) (by kernel_rfl) (by kernel_rfl) (fun _ _ _ h => h) hst (EffB.run rfl rfl (fun wd hS => ?_)) (.inl (by kernel_rfl)) ?_
    · (go_wp2_with fail; (with_reducible refine (F6.out _).mono ?_); rintro e w'' ⟨rfl, hb⟩; exact ⟨rfl, hb⟩)
    simp only [act_norm]
    refine wpAnyE_take 27 (v := .bool true) rfl (by kernel_rfl) (by kernel_rfl) (by kernel_rfl) (fun _ _ _ h => h) hst (EffB.run rfl rfl (fun wd hS => ?_)) (.inr (EffB.run rfl rfl (fun wd hS => ?_))) ?_
    · (go_wp2; exact ⟨rfl, Below.refl _ _⟩)
    · (go_wp2; exact ⟨rfl, Below.refl _ _⟩)
    simp only [act_norm]
    refine wpAnyE_take 28 (v := .bool true) rfl (by kernel_rfl) (by kernel_rfl) (by kernel_rfl) (fun _ _ _ h => h) hst (EffB.run rfl rfl (fun wd hS => ?_)) (.inr (EffB.run rfl rfl (fun wd hS => ?_))) ?_
    · (go_wp2; exact ⟨rfl, Below.refl _ _⟩)
    · (go_wp2; exact ⟨rfl, Below.refl _ _⟩)
    simp only [act_norm]
    refine wpAnyE_take 29 rfl (by kernel_rfl) (by kernel_rfl) (by kernel_rfl) (fun _ _ _ h => h) hst (EffB.pure rfl (fun _ => rfl)) (.inr (EffB.pure rfl (fun _ => rfl))) ?_
    simp only [act_norm]
    refine wpAnyE_done (by kernel_rfl) (fun wd hS => ?_) _
    have MF := Lib.hid hS
    clear hS hst
    go_wp2
    go_ret
    exact ⟨rfl, MF.out.below⟩
  · have e3 : decide (0 < x3) = false := decide_eq_false r3
    have hrun : ¬ y3 < 1 := by have := hbool rfl; omega
    clear hbool
    simp only [e3, Bool.and_true, Bool.true_and, Bool.false_and, Bool.and_false, Bool.and_self] at F7
    go_enter Try.func12, Try.ntmps12
    go_wp2_with fail
    (with_reducible refine (awake52 _).mono ?_)
    rintro e w1 ⟨rfl, hb1⟩
    have M1 := Lib.hid (((Mem.start w).alloc (.cells #[.int .i64 x0, .int .i64 x1, .int .i64 x2, .int .i64 x3] 94)).call hb1)
    clear hb1
    go_wp2_with fail
    (with_reducible refine (F1.out _ (HS.out.below M1.out.below)).mono ?_)
    rintro e w2 ⟨rfl, hb2⟩
    have M2 := Lib.hid ((M1.out.call hb2).alloc (.cells #[.int .i64 y0, .int .i64 y1, .int .i64 y2, .int .i64 y3] 95))
    clear hb2 M1 F1
    go_wp2_with fail
    obtain ⟨A, hA⟩ : ∃ Y, w2.heap.size = Y := ⟨_, rfl⟩
    rw [hA] at M2
    try rw [hA]
    (with_reducible refine (F2.out _ (HS.out.below M2.out.below)).mono ?_)
    rintro e w3 ⟨rfl, hb3⟩
    have M3 := Lib.hid ((M2.out.call hb3).alloc (.cells #[.int .i64 y0, .int .i64 y1, .int .i64 y2, .int .i64 y3] 94))
    clear hb3 M2 F2 hA
    obtain ⟨B, hB⟩ : ∃ Y, w3.heap.size = Y := ⟨_, rfl⟩
    rw [hB] at M3
    have K0 := Lib.hid (M3.out.heap 0 rfl)
    have K1 := Lib.hid (M3.out.heap 1 rfl)
    have K2 := Lib.hid (M3.out.heap 2 rfl)
    have c3 := M3.out.cell 1 3 rfl rfl
    have M4 := Lib.hid (M3.out.allocAs (B + 1) (.cells #[.int .i64 x0, .int .i64 x1, .int .i64 x2, .int .i64 x3] 95) (by rw [World.size_alloc, hB]))
    clear M3
    go_wp2_with (first | ((with_reducible refine wpList_load_rowAs rfl 95 _ rfl (A) ?_ 95 #[.int .i64 y0, .int .i64 y1, .int .i64 y2, .int .i64 y3] (0, 0) _ 4 ?_ Try.underlying95 rfl (by kernel_rfl) ?_ ?_); exact rfl; exact K1.out; exact rfl) | ((with_reducible refine wpList_load_rowAs rfl 94 _ rfl (B) ?_ 94 #[.int .i64 y0, .int .i64 y1, .int .i64 y2, .int .i64 y3] (0, 0) _ 4 ?_ Try.underlying94 rfl (by kernel_rfl) ?_ ?_); exact rfl; exact K2.out; exact rfl) | (with_reducible refine wpList_neq_agg rfl _ _ _ _ rfl _ _ rfl rfl true (by kernel_rfl) (HQ.out _) ?_) | ((with_reducible refine wpList_load_rowAs rfl 94 _ rfl (w.heap.size) ?_ 94 #[.int .i64 x0, .int .i64 x1, .int .i64 x2, .int .i64 x3] (0, 0) _ 4 ?_ Try.underlying94 rfl (by kernel_rfl) ?_ ?_); exact rfl; exact K0.out; exact rfl))
    try rw [hB]
    have hst := stab_mem (w := w) (bs := [(w.heap.size, .cells #[.int .i64 x0, .int .i64 x1, .int .i64 x2, .int .i64 x3] 94), (A, .cells #[.int .i64 y0, .int .i64 y1, .int .i64 y2, .int .i64 y3] 95), (B, .cells #[.int .i64 y0, .int .i64 y1, .int .i64 y2, .int .i64 y3] 94), (B + 1, .cells #[.int .i64 x0, .int .i64 x1, .int .i64 x2, .int .i64 x3] 95)])
    refine wp_region_E mixed [] hst (M4.out.drewN 1) ?_
    clear K0 K1 K2 c3 M4 hB
    refine wpAnyE_take 0 (v := .agg #[.int .i64 x0, .int .i64 x1, .int .i64 x2, .int .i64 x3]) rfl (by kernel_rfl) (by kernel_rfl) (by kernel_rfl) (fun _ _ _ h => h) hst (EffB.run rfl rfl (fun wd hS => ?_)) (.inl (by kernel_rfl)) ?_
    · exact wp_load_row 95 _ rfl ((B + 1)) rfl 95 #[.int .i64 x0, .int .i64 x1, .int .i64 x2, .int .i64 x3] (0, 0) _ (hS.heap 3 rfl) Try.underlying95 rfl (by kernel_rfl) ⟨rfl, Below.refl _ _⟩
    simp only [act_norm]
    refine wpAnyE_take 1 rfl (by kernel_rfl) (by kernel_rfl) (by kernel_rfl) (fun _ _ _ h => h) hst (EffB.pure rfl (fun _ => rfl)) (.inr (EffB.pure rfl (fun _ => rfl))) ?_
    simp only [act_norm]
    refine wpAnyE_take 2 (v := .int .i64 u1) rfl (by kernel_rfl) (by kernel_rfl) (by kernel_rfl) (fun _ _ _ h => h) hst (EffB.run rfl rfl (fun wd hS => ?_)) (.inl (by kernel_rfl)) ?_
    · (go_wp2_with fail; (with_reducible refine (F3.out _).mono ?_); rintro e w'' ⟨rfl, hb⟩; exact ⟨rfl, hb⟩)
    simp only [act_norm]
    refine wpAnyE_take 3 (v := .agg #[.int .i64 x0, .int .i64 x1, .int .i64 x2, .int .i64 x3]) rfl (by kernel_rfl) (by kernel_rfl) (by kernel_rfl) (fun _ _ _ h => h) hst (EffB.run rfl rfl (fun wd hS => ?_)) (.inl (by kernel_rfl)) ?_
    · exact wp_load_row 94 _ rfl (w.heap.size) rfl 94 #[.int .i64 x0, .int .i64 x1, .int .i64 x2, .int .i64 x3] (0, 0) _ (hS.heap 0 rfl) Try.underlying94 rfl (by kernel_rfl) ⟨rfl, Below.refl _ _⟩
    simp only [act_norm]
    refine wpAnyE_take 4 rfl (by kernel_rfl) (by kernel_rfl) (by kernel_rfl) (fun _ _ _ h => h) hst (EffB.pure rfl (fun _ => rfl)) (.inr (EffB.pure rfl (fun _ => rfl))) ?_
    simp only [act_norm]
    refine wpAnyE_take 5 (v := .int .i64 u1) rfl (by kernel_rfl) (by kernel_rfl) (by kernel_rfl) (fun _ _ _ h => h) hst (EffB.run rfl rfl (fun wd hS => ?_)) (.inl (by kernel_rfl)) ?_
    · (go_wp2_with fail; (with_reducible refine (F4.out _).mono ?_); rintro e w'' ⟨rfl, hb⟩; exact ⟨rfl, hb⟩)
    simp only [act_norm]
    refine wpAnyE_take 6 (v := .bool true) rfl (by kernel_rfl) (by kernel_rfl) (by kernel_rfl) (fun _ _ _ h => h) hst (EffB.run rfl rfl (fun wd hS => ?_)) (.inr (EffB.run rfl rfl (fun wd hS => ?_))) ?_
    · (go_wp2; exact ⟨rfl, Below.refl _ _⟩)
    · (go_wp2; exact ⟨rfl, Below.refl _ _⟩)
    simp only [act_norm]
    refine wpAnyE_take 7 rfl (by kernel_rfl) (by kernel_rfl) (by kernel_rfl) (fun _ _ _ h => h) hst (EffB.pure rfl (fun _ => rfl)) (.inr (EffB.pure rfl (fun _ => rfl))) ?_
    simp only [act_norm]
    refine wpAnyE_take 8 (v := .agg #[.int .i64 x0, .int .i64 x1, .int .i64 x2, .int .i64 x3]) rfl (by kernel_rfl) (by kernel_rfl) (by kernel_rfl) (fun _ _ _ h => h) hst (EffB.run rfl rfl (fun wd hS => ?_)) (.inl (by kernel_rfl)) ?_
    · exact wp_load_row 95 _ rfl ((B + 1)) rfl 95 #[.int .i64 x0, .int .i64 x1, .int .i64 x2, .int .i64 x3] (0, 0) _ (hS.heap 3 rfl) Try.underlying95 rfl (by kernel_rfl) ⟨rfl, Below.refl _ _⟩
    simp only [act_norm]
    refine wpAnyE_take 9 (v := .bool false) rfl (by kernel_rfl) (by kernel_rfl) (by kernel_rfl) (fun _ _ _ h => h) hst (EffB.run rfl rfl (fun wd hS => ?_)) (.inl (by kernel_rfl)) ?_
    · (go_wp2_with fail; (with_reducible refine (F7.out _).mono ?_); rintro e w'' ⟨rfl, hb⟩; exact ⟨rfl, hb⟩)
    simp only [act_norm]
    refine wpAnyE_take 10 (v := .pointer (some ⟨w.heap.size, 3, none⟩)) rfl (by kernel_rfl) (by kernel_rfl) (by kernel_rfl) (fun _ _ _ h => h) hst (EffB.run rfl rfl (fun wd hS => ?_)) (.inr (EffB.run rfl rfl (fun wd hS => ?_))) ?_
    · (go_wp2; exact ⟨rfl, Below.refl _ _⟩)
    · (go_wp2; exact ⟨rfl, Below.refl _ _⟩)
    simp only [act_norm]
    refine wpAnyE_take 11 (v := .int .i64 x3) rfl (by kernel_rfl) (by kernel_rfl) (by kernel_rfl) (fun _ _ _ h => h) hst (EffB.run rfl rfl (fun wd hS => ?_)) (.inl (by kernel_rfl)) ?_
    · (have c2 : wd.cell? ⟨w.heap.size, 3, none⟩ = some (.int .i64 x3) := by rw [cell_of_row _ _ _ _ _ _ (hS.heap 0 rfl)]; rfl); go_wp2; exact ⟨rfl, Below.refl _ _⟩
    simp only [act_norm]
    refine wpAnyE_take 12 (v := .bool false) rfl (by kernel_rfl) (by kernel_rfl) (by kernel_rfl) (fun _ _ _ h => h) hst (EffB.run rfl rfl (fun wd hS => ?_)) (.inr (EffB.run rfl rfl (fun wd hS => ?_))) ?_
    · (go_wp2; exact ⟨rfl, Below.refl _ _⟩)
    · (go_wp2; exact ⟨rfl, Below.refl _ _⟩)
    simp only [act_norm]
    refine wpAnyE_take 13 rfl (by kernel_rfl) (by kernel_rfl) (by kernel_rfl) (fun _ _ _ h => h) hst (EffB.pure rfl (fun _ => rfl)) (.inr (EffB.pure rfl (fun _ => rfl))) ?_
    simp only [act_norm]
    refine wpAnyE_take 14 rfl (by kernel_rfl) (by kernel_rfl) (by kernel_rfl) (fun _ _ _ h => h) hst (EffB.skip rfl) (.inr (EffB.skip rfl)) ?_
    simp only [act_norm]
    refine wpAnyE_take 15 rfl (by kernel_rfl) (by kernel_rfl) (by kernel_rfl) (fun _ _ _ h => h) hst (EffB.skip rfl) (.inr (EffB.skip rfl)) ?_
    simp only [act_norm]
    refine wpAnyE_take 16 rfl (by kernel_rfl) (by kernel_rfl) (by kernel_rfl) (fun _ _ _ h => h) hst (EffB.skip rfl) (.inr (EffB.skip rfl)) ?_
    simp only [act_norm]
    refine wpAnyE_take 17 (v := .bool false) rfl (by kernel_rfl) (by kernel_rfl) (by kernel_rfl) (fun _ _ _ h => h) hst (EffB.run rfl rfl (fun wd hS => ?_)) (.inr (EffB.run rfl rfl (fun wd hS => ?_))) ?_
    · (go_wp2; exact ⟨rfl, Below.refl _ _⟩)
    · (go_wp2; exact ⟨rfl, Below.refl _ _⟩)
    simp only [act_norm]
    refine wpAnyE_take 18 (v := .bool true) rfl (by kernel_rfl) (by kernel_rfl) (by kernel_rfl) (fun _ _ _ h => h) hst (EffB.run rfl rfl (fun wd hS => ?_)) (.inr (EffB.run rfl rfl (fun wd hS => ?_))) ?_
    · (go_wp2; exact ⟨rfl, Below.refl _ _⟩)
    · (go_wp2; exact ⟨rfl, Below.refl _ _⟩)
    simp only [act_norm]
    refine wpAnyE_take 19 (v := .bool true) rfl (by kernel_rfl) (by kernel_rfl) (by kernel_rfl) (fun _ _ _ h => h) hst (EffB.run rfl rfl (fun wd hS => ?_)) (.inr (EffB.run rfl rfl (fun wd hS => ?_))) ?_
    · (go_wp2; exact ⟨rfl, Below.refl _ _⟩)
    · (go_wp2; exact ⟨rfl, Below.refl _ _⟩)
    simp only [act_norm]
    refine wpAnyE_take 20 rfl (by kernel_rfl) (by kernel_rfl) (by kernel_rfl) (fun _ _ _ h => h) hst (EffB.pure rfl (fun _ => rfl)) (.inr (EffB.pure rfl (fun _ => rfl))) ?_
    simp only [act_norm]
    refine wpAnyE_take 21 (v := .agg #[.int .i64 y0, .int .i64 y1, .int .i64 y2, .int .i64 y3]) rfl (by kernel_rfl) (by kernel_rfl) (by kernel_rfl) (fun _ _ _ h => h) hst (EffB.run rfl rfl (fun wd hS => ?_)) (.inl (by kernel_rfl)) ?_
    · exact wp_load_row 95 _ rfl (A) rfl 95 #[.int .i64 y0, .int .i64 y1, .int .i64 y2, .int .i64 y3] (0, 0) _ (hS.heap 1 rfl) Try.underlying95 rfl (by kernel_rfl) ⟨rfl, Below.refl _ _⟩
    simp only [act_norm]
    refine wpAnyE_take 22 rfl (by kernel_rfl) (by kernel_rfl) (by kernel_rfl) (fun _ _ _ h => h) hst (EffB.pure rfl (fun _ => rfl)) (.inr (EffB.pure rfl (fun _ => rfl))) ?_
    simp only [act_norm]
    refine wpAnyE_take 23 (v := .int .i64 u2) rfl (by kernel_rfl) (by kernel_rfl) (by kernel_rfl) (fun _ _ _ h => h) hst (EffB.run rfl rfl (fun wd hS => ?_)) (.inl (by kernel_rfl)) ?_
    · (go_wp2_with fail; (with_reducible refine (F5.out _).mono ?_); rintro e w'' ⟨rfl, hb⟩; exact ⟨rfl, hb⟩)
    simp only [act_norm]
    refine wpAnyE_take 24 (v := .agg #[.int .i64 y0, .int .i64 y1, .int .i64 y2, .int .i64 y3]) rfl (by kernel_rfl) (by kernel_rfl) (by kernel_rfl) (fun _ _ _ h => h) hst (EffB.run rfl rfl (fun wd hS => ?_)) (.inl (by kernel_rfl)) ?_
    · exact wp_load_row 94 _ rfl (B) rfl 94 #[.int .i64 y0, .int .i64 y1, .int .i64 y2, .int .i64 y3] (0, 0) _ (hS.heap 2 rfl) Try.underlying94 rfl (by kernel_rfl) ⟨rfl, Below.refl _ _⟩
    simp only [act_norm]
    refine wpAnyE_take 25 rfl (by kernel_rfl) (by kernel_rfl) (by kernel_rfl) (fun _ _ _ h => h) hst (EffB.pure rfl (fun _ => rfl)) (.inr (EffB.pure rfl (fun _ => rfl))) ?_
    simp only [act_norm]
    refine wpAnyE_take 26 (v := .int .i64 u2) rfl (by kernel_rfl) (by kernel_rfl) (by kernel_rfl) (fun _ _ _ h => h) hst (EffB.run rfl rfl (fun wd hS => ?_)) (.inl (by kernel_rfl)) ?_
    · (go_wp2_with fail; (with_reducible refine (F6.out _).mono ?_); rintro e w'' ⟨rfl, hb⟩; exact ⟨rfl, hb⟩)
    simp only [act_norm]
    refine wpAnyE_take 27 (v := .bool true) rfl (by kernel_rfl) (by kernel_rfl) (by kernel_rfl) (fun _ _ _ h => h) hst (EffB.run rfl rfl (fun wd hS => ?_)) (.inr (EffB.run rfl rfl (fun wd hS => ?_))) ?_
    · (go_wp2; exact ⟨rfl, Below.refl _ _⟩)
    · (go_wp2; exact ⟨rfl, Below.refl _ _⟩)
    simp only [act_norm]
    refine wpAnyE_take 28 (v := .bool true) rfl (by kernel_rfl) (by kernel_rfl) (by kernel_rfl) (fun _ _ _ h => h) hst (EffB.run rfl rfl (fun wd hS => ?_)) (.inr (EffB.run rfl rfl (fun wd hS => ?_))) ?_
    · (go_wp2; exact ⟨rfl, Below.refl _ _⟩)
    · (go_wp2; exact ⟨rfl, Below.refl _ _⟩)
    simp only [act_norm]
    refine wpAnyE_take 29 rfl (by kernel_rfl) (by kernel_rfl) (by kernel_rfl) (fun _ _ _ h => h) hst (EffB.pure rfl (fun _ => rfl)) (.inr (EffB.pure rfl (fun _ => rfl))) ?_
    simp only [act_norm]
    refine wpAnyE_done (by kernel_rfl) (fun wd hS => ?_) _
    have MF := Lib.hid hS
    clear hS hst
    go_wp2
    go_ret
    exact ⟨rfl, MF.out.below⟩
end Go.Proofs.Ytcanbagnehdbiaa
