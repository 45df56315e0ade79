/- Layer 17: of a nil node nothing is done. -/
import Derived.Test.YtapgcbjlgekpeaaJLaws17e
import Derived.Test.YtapgcbjlgekpeaaJOpen17
namespace Go.Proofs.Ytapgcbjlgekpeaa
open Go.ChangeShapes Go.WideShapes Go.ChangeAt Go.RowKit
set_option maxHeartbeats 2000000 in
set_option maxRecDepth 100000 in
theorem nodeNone_A (a : Nac) (f : Int) (y : NS) (go : Option Nat) (P : Hid (∀ W : World, Calls Try.prog 17 #[.pointer none, .agg a.row] W fun e w' => e = .returned (.tuple #[.pointer none, .int .i64 f, .int .i64 0]) ∧ Below W.heap.size W w'))
    (R : Hid (∀ W : World, Calls Try.prog 18 #[.agg #[.int .i64 1, .int .i64 2, .int .i64 1, .int .i64 1], .agg zeroLoad, .agg a.row] W (DoOf (fun _ => False) W y f go))) (hf : (f == 0) = false) (w : World) :
    Calls Try.prog 3 #[.agg a.row] w fun e w' => e = .returned (.bool true) ∧ Below w.heap.size w w' := by
  have A := Lib.hid awake17
  have N : Hid (∀ W : World, Calls Try.prog 16 #[.agg #[.int .i64 0, .int .i64 0, .int .i64 0, .int .i64 0]] W fun e w' => e = .returned (.pointer none) ∧ Below W.heap.size W w') := fun W => node_new_no ⟨0, 0, 0, 0⟩ ⟨by unfold I64; decide, by unfold I64; decide, by unfold I64; decide, by unfold I64; decide⟩ (fun h => by have := h.sa.1; simp at this) W
  have T := Lib.hid toldnil
  have F := Lib.hid node_frozen_nil
  have B0 := Lib.hid (below1 w (.cells a.row 29))
  have K0 : Hid ((w.alloc (.cells a.row 29)).heap[w.heap.size]? = some (.cells a.row 29 (0, 0))) := heap_alloc_at _ _ _ rfl
  go_enter Try.func3, Try.ntmps3
  go_upto_region 1 with fail
  generalize (w.alloc (.cells a.row 29)) = W0 at *
  go_wp2_with fail
  (with_reducible refine (A.out _).mono ?_)
  rintro e w1 ⟨rfl, hb⟩
  have B1 := Lib.hid (B0.out.trans (hb.mono B0.out.size))
  have K1 := Lib.hid ((hb.block _ (lt_of_heap K0.out)).trans K0.out)
  clear hb A K0 B0
  go_wp2_with fail
  (with_reducible refine (N.out _).mono ?_)
  rintro e w2 ⟨rfl, hb⟩
  have B2 := Lib.hid (B1.out.trans (hb.mono B1.out.size))
  have K2 := Lib.hid ((hb.block _ (lt_of_heap K1.out)).trans K1.out)
  clear hb N K1 B1
  go_wp2_with (first | ((with_reducible refine wpList_load_rowAs rfl 29 _ rfl (w.heap.size) ?_ 29 a.row (0, 0) _ 14 ?_ Try.underlying29 rfl (by kernel_rfl) ?_ ?_); exact rfl; exact K2.out; exact rfl) | fail)
  (with_reducible refine (P.out _).mono ?_)
  rintro e w3 ⟨rfl, hb⟩
  have B3 := Lib.hid (B2.out.trans (hb.mono B2.out.size))
  have K3 := Lib.hid ((hb.block _ (lt_of_heap K2.out)).trans K2.out)
  clear hb P K2 B2
  go_upto_region 7 with fail
  have hst := stab_and (stab_heap w.heap.size (.cells a.row 29 (0, 0))) (stab_below (B := w.heap.size) (w0 := w) (Nat.le_refl _))
  refine wp_region_E mixed [] hst ⟨K3.out, below_drew B3.out⟩ ?_
  clear K3 B3
  refine wpAnyE_take 0 (v := .agg #[.int .i64 1, .int .i64 2, .int .i64 1, .int .i64 1]) rfl (by kernel_rfl) (by kernel_rfl) (by kernel_rfl) (fun _ _ _ h => h) hst (EffB.run rfl rfl (fun wd hS => ?_)) (.inl (by kernel_rfl)) ?_
  · (go_wp2_with fail; (with_reducible refine (small17 wd).mono ?_); rintro e w'' ⟨rfl, hb⟩; exact ⟨rfl, hb⟩)
  simp only [act_norm]
  refine wpAnyE_take 1 (v := .agg zeroLoad) rfl (by kernel_rfl) (by kernel_rfl) (by kernel_rfl) (fun _ _ _ h => h) hst (EffB.run rfl rfl (fun wd hS => ?_)) (.inr (EffB.run rfl rfl (fun wd hS => ?_))) ?_
  · (go_wp2; exact ⟨rfl, Below.refl _ _⟩)
  · (go_wp2; exact ⟨rfl, Below.refl _ _⟩)
  simp only [act_norm]
  refine wpAnyE_take 2 (v := .agg a.row) rfl (by kernel_rfl) (by kernel_rfl) (by kernel_rfl) (fun _ _ _ h => h) hst (EffB.run rfl rfl (fun wd hS => ?_)) (.inl (by kernel_rfl)) ?_
  · exact wp_load_row 29 _ rfl (w.heap.size) rfl 29 a.row (0, 0) _ (hS.1) Try.underlying29 rfl (by kernel_rfl) ⟨rfl, Below.refl _ _⟩
  simp only [act_norm]
  refine wpAnyE_two 3 8 rfl rfl (by kernel_rfl) rfl rfl (fun wd hS => ?_) (fun wd hS => ?_)
  · go_wp2_with fail
    (with_reducible refine (R.out _).mono ?_)
    rintro e w4 ⟨p, c, q, d, t, rfl, _, _, hb⟩
    have Y := Lib.hid (hst _ _ hS hb)
    refine ⟨_, Y.out, hst, (by first | exact fun _ h => h | exact .inr fun _ h => h), ?_⟩
    clear hS hb Y R
    obtain ⟨y0, y1, y2, y3, y4, y5, y6, y7, y8, y9, HY⟩ : ∃ y0 y1 y2 y3 y4 y5 y6 y7 y8 y9 : Value, Hid (y.val p c q d = #[y0, y1, y2, y3, y4, y5, y6, y7, y8, y9] ∧ (#[y0, y1, y2, y3, y4, y5, y6, y7, y8, y9] : Array Value).all (·.oneCell') = true) := ⟨_, _, _, _, _, _, _, _, _, _, Lib.hid ⟨rfl, by simp [Value.oneCell']⟩⟩
    rw [HY.out.1]
    try simp only [act_norm]
    refine wpAnyE_take 4 rfl (by kernel_rfl) (by kernel_rfl) (by kernel_rfl) (fun _ _ _ h => h) hst (EffB.pure rfl (fun _ => rfl)) (.inr (EffB.pure rfl (fun _ => rfl))) ?_
    simp only [act_norm]
    refine wpAnyE_take 5 (v := .agg #[y0, y1, y2, y3, y4, y5, y6, y7, y8, y9]) rfl (by kernel_rfl) (by kernel_rfl) (by kernel_rfl) (fun _ _ _ h => h) hst (EffB.run rfl rfl (fun wd hS => ?_)) (.inr (EffB.run rfl rfl (fun wd hS => ?_))) ?_
    · (go_wp2; exact ⟨rfl, Below.refl _ _⟩)
    · (go_wp2; exact ⟨rfl, Below.refl _ _⟩)
    simp only [act_norm]
    refine wpAnyE_take 6 (v := .int .i64 f) rfl (by kernel_rfl) (by kernel_rfl) (by kernel_rfl) (fun _ _ _ h => h) hst (EffB.run rfl rfl (fun wd hS => ?_)) (.inr (EffB.run rfl rfl (fun wd hS => ?_))) ?_
    · (go_wp2; exact ⟨rfl, Below.refl _ _⟩)
    · (go_wp2; exact ⟨rfl, Below.refl _ _⟩)
    simp only [act_norm]
    refine wpAnyE_take 7 (v := .int .i64 t) rfl (by kernel_rfl) (by kernel_rfl) (by kernel_rfl) (fun _ _ _ h => h) hst (EffB.run rfl rfl (fun wd hS => ?_)) (.inr (EffB.run rfl rfl (fun wd hS => ?_))) ?_
    · (go_wp2; exact ⟨rfl, Below.refl _ _⟩)
    · (go_wp2; exact ⟨rfl, Below.refl _ _⟩)
    simp only [act_norm]
    refine wpAnyE_one 8 rfl (by kernel_rfl) rfl (fun wd hS => ?_)
    have hst2 := stab_and hst (stab_row10 (n := wd.heap.size))
    have Y1 : Hid ((((wd.alloc (.cells zeroLoad 40)).heap[w.heap.size]? = some (.cells a.row 29 (0, 0)) ∧ Below w.heap.size w (wd.alloc (.cells zeroLoad 40))) ∧ ∃ cs : Array Value, cs.size = 10 ∧ (wd.alloc (.cells zeroLoad 40)).heap[wd.heap.size]? = some (.cells cs 40 (0, 0)))) := ⟨hst _ _ hS (below1 _ _), _, rfl, heap_alloc_at _ _ _ rfl⟩
    have XL := Lib.hid (And.intro hS.2.size (lt_of_heap hS.1))
    clear hS
    go_wp2
    refine ⟨_, Y1.out, hst2, (by first | exact fun _ h => h.1 | exact .inr fun _ h => h.1), ?_⟩
    obtain ⟨X, hX⟩ : ∃ X, wd.heap.size = X := ⟨_, rfl⟩
    rw [hX] at hst2 XL ⊢
    clear Y1 hst hX
    try simp only [act_norm]
    have hst := hst2
    clear hst2
    refine wpAnyE_one 9 rfl (by kernel_rfl) rfl (fun wd hS => ?_)
    obtain ⟨old, hold, hrow⟩ := hS.2
    refine wp_store_row 40 _ _ rfl X #[y0, y1, y2, y3, y4, y5, y6, y7, y8, y9] rfl rfl 40 old hrow loadSize hold HY.out.2 ?_
    have Y := Lib.hid (And.intro (And.intro ((setRow_other wd X w.heap.size #[y0, y1, y2, y3, y4, y5, y6, y7, y8, y9] (by have := XL.out; omega)).trans hS.1.1) (below_setRow hS.1.2 XL.out.1 #[y0, y1, y2, y3, y4, y5, y6, y7, y8, y9])) (show ∃ cs : Array Value, cs.size = 10 ∧ (wd.setRow X #[y0, y1, y2, y3, y4, y5, y6, y7, y8, y9]).heap[X]? = some (.cells cs 40 (0, 0)) from ⟨_, rfl, setRow_heap _ _ _ #[y0, y1, y2, y3, y4, y5, y6, y7, y8, y9] _ _ hrow⟩))
    clear hS hrow hold
    refine ⟨_, Y.out, hst, (by first | exact fun _ h => h | exact .inr fun _ h => h), ?_⟩
    clear Y
    try simp only [act_norm]
    refine wpAnyE_take 10 rfl (by kernel_rfl) (by kernel_rfl) (by kernel_rfl) (fun _ _ _ h => h) hst (EffB.pure rfl (fun _ => rfl)) (.inr (EffB.pure rfl (fun _ => rfl))) ?_
    simp only [act_norm]
    refine wpAnyE_take 11 rfl (by kernel_rfl) (by kernel_rfl) (by kernel_rfl) (fun _ _ _ h => h) hst (EffB.pure rfl (fun _ => rfl)) (.inr (EffB.pure rfl (fun _ => rfl))) ?_
    simp only [act_norm]
    refine wpAnyE_done (by kernel_rfl) (fun wd hS => ?_) _
    have B4 := Lib.hid hS.1.2
    have k0 : wd.cell? ⟨w.heap.size, 0, none⟩ = some (.int .i64 a.k) := by rw [cell_of_row _ _ _ _ _ _ hS.1.1]; rfl
    clear hS hst
    go_wp2_with fail
    (with_reducible refine (T.out _).mono ?_)
    rintro e w5 ⟨rfl, hb⟩
    have B5 := Lib.hid (B4.out.trans (hb.mono B4.out.size))
    clear hb
    go_wp2_with ((with_reducible refine (F.out _).mono ?_); rintro e w6 ⟨rfl, rfl⟩)
    go_ret
    exact ⟨rfl, B5.out⟩
  · have hst2 := stab_and hst (stab_row10 (n := wd.heap.size))
    have Y1 : Hid ((((wd.alloc (.cells zeroLoad 40)).heap[w.heap.size]? = some (.cells a.row 29 (0, 0)) ∧ Below w.heap.size w (wd.alloc (.cells zeroLoad 40))) ∧ ∃ cs : Array Value, cs.size = 10 ∧ (wd.alloc (.cells zeroLoad 40)).heap[wd.heap.size]? = some (.cells cs 40 (0, 0)))) := ⟨hst _ _ hS (below1 _ _), _, rfl, heap_alloc_at _ _ _ rfl⟩
    have XL := Lib.hid (And.intro hS.2.size (lt_of_heap hS.1))
    clear hS
    go_wp2
    refine ⟨_, Y1.out, hst2, (by first | exact fun _ h => h.1 | exact .inr fun _ h => h.1), ?_⟩
    obtain ⟨X, hX⟩ : ∃ X, wd.heap.size = X := ⟨_, rfl⟩
    rw [hX] at hst2 XL ⊢
    clear Y1 hst hX
    try simp only [act_norm]
    have hst := hst2
    clear hst2
    refine wpAnyE_one 3 rfl (by kernel_rfl) rfl (fun wd hS => ?_)
    go_wp2_with fail
    (with_reducible refine (R.out _).mono ?_)
    rintro e w4 ⟨p, c, q, d, t, rfl, _, _, hb⟩
    have Y := Lib.hid (hst _ _ hS hb)
    refine ⟨_, Y.out, hst, (by first | exact fun _ h => h | exact .inr fun _ h => h), ?_⟩
    clear hS hb Y R
    obtain ⟨y0, y1, y2, y3, y4, y5, y6, y7, y8, y9, HY⟩ : ∃ y0 y1 y2 y3 y4 y5 y6 y7 y8 y9 : Value, Hid (y.val p c q d = #[y0, y1, y2, y3, y4, y5, y6, y7, y8, y9] ∧ (#[y0, y1, y2, y3, y4, y5, y6, y7, y8, y9] : Array Value).all (·.oneCell') = true) := ⟨_, _, _, _, _, _, _, _, _, _, Lib.hid ⟨rfl, by simp [Value.oneCell']⟩⟩
    rw [HY.out.1]
    try simp only [act_norm]
    refine wpAnyE_take 4 rfl (by kernel_rfl) (by kernel_rfl) (by kernel_rfl) (fun _ _ _ h => h) hst (EffB.pure rfl (fun _ => rfl)) (.inr (EffB.pure rfl (fun _ => rfl))) ?_
    simp only [act_norm]
    refine wpAnyE_take 5 (v := .agg #[y0, y1, y2, y3, y4, y5, y6, y7, y8, y9]) rfl (by kernel_rfl) (by kernel_rfl) (by kernel_rfl) (fun _ _ _ h => h) hst (EffB.run rfl rfl (fun wd hS => ?_)) (.inr (EffB.run rfl rfl (fun wd hS => ?_))) ?_
    · (go_wp2; exact ⟨rfl, Below.refl _ _⟩)
    · (go_wp2; exact ⟨rfl, Below.refl _ _⟩)
    simp only [act_norm]
    refine wpAnyE_take 6 (v := .int .i64 f) rfl (by kernel_rfl) (by kernel_rfl) (by kernel_rfl) (fun _ _ _ h => h) hst (EffB.run rfl rfl (fun wd hS => ?_)) (.inr (EffB.run rfl rfl (fun wd hS => ?_))) ?_
    · (go_wp2; exact ⟨rfl, Below.refl _ _⟩)
    · (go_wp2; exact ⟨rfl, Below.refl _ _⟩)
    simp only [act_norm]
    refine wpAnyE_take 7 (v := .int .i64 t) rfl (by kernel_rfl) (by kernel_rfl) (by kernel_rfl) (fun _ _ _ h => h) hst (EffB.run rfl rfl (fun wd hS => ?_)) (.inr (EffB.run rfl rfl (fun wd hS => ?_))) ?_
    · (go_wp2; exact ⟨rfl, Below.refl _ _⟩)
    · (go_wp2; exact ⟨rfl, Below.refl _ _⟩)
    simp only [act_norm]
    refine wpAnyE_one 9 rfl (by kernel_rfl) rfl (fun wd hS => ?_)
    obtain ⟨old, hold, hrow⟩ := hS.2
    refine wp_store_row 40 _ _ rfl X #[y0, y1, y2, y3, y4, y5, y6, y7, y8, y9] rfl rfl 40 old hrow loadSize hold HY.out.2 ?_
    have Y := Lib.hid (And.intro (And.intro ((setRow_other wd X w.heap.size #[y0, y1, y2, y3, y4, y5, y6, y7, y8, y9] (by have := XL.out; omega)).trans hS.1.1) (below_setRow hS.1.2 XL.out.1 #[y0, y1, y2, y3, y4, y5, y6, y7, y8, y9])) (show ∃ cs : Array Value, cs.size = 10 ∧ (wd.setRow X #[y0, y1, y2, y3, y4, y5, y6, y7, y8, y9]).heap[X]? = some (.cells cs 40 (0, 0)) from ⟨_, rfl, setRow_heap _ _ _ #[y0, y1, y2, y3, y4, y5, y6, y7, y8, y9] _ _ hrow⟩))
    clear hS hrow hold
    refine ⟨_, Y.out, hst, (by first | exact fun _ h => h | exact .inr fun _ h => h), ?_⟩
    clear Y
    try simp only [act_norm]
    refine wpAnyE_take 10 rfl (by kernel_rfl) (by kernel_rfl) (by kernel_rfl) (fun _ _ _ h => h) hst (EffB.pure rfl (fun _ => rfl)) (.inr (EffB.pure rfl (fun _ => rfl))) ?_
    simp only [act_norm]
    refine wpAnyE_take 11 rfl (by kernel_rfl) (by kernel_rfl) (by kernel_rfl) (fun _ _ _ h => h) hst (EffB.pure rfl (fun _ => rfl)) (.inr (EffB.pure rfl (fun _ => rfl))) ?_
    simp only [act_norm]
    refine wpAnyE_done (by kernel_rfl) (fun wd hS => ?_) _
    have B4 := Lib.hid hS.1.2
    have k0 : wd.cell? ⟨w.heap.size, 0, none⟩ = some (.int .i64 a.k) := by rw [cell_of_row _ _ _ _ _ _ hS.1.1]; rfl
    clear hS hst
    go_wp2_with fail
    (with_reducible refine (T.out _).mono ?_)
    rintro e w5 ⟨rfl, hb⟩
    have B5 := Lib.hid (B4.out.trans (hb.mono B4.out.size))
    clear hb
    go_wp2_with ((with_reducible refine (F.out _).mono ?_); rintro e w6 ⟨rfl, rfl⟩)
    go_ret
    exact ⟨rfl, B5.out⟩
set_option maxHeartbeats 2000000 in
set_option maxRecDepth 100000 in
theorem nodeNone_B (a : Nac) (y : NS) (go : Option Nat) (P : Hid (∀ W : World, Calls Try.prog 17 #[.pointer none, .agg a.row] W fun e w' => e = .returned (.tuple #[.pointer none, .int .i64 5, .int .i64 0]) ∧ Below W.heap.size W w'))
    (R : Hid (∀ W : World, Calls Try.prog 18 #[.agg #[.int .i64 1, .int .i64 2, .int .i64 1, .int .i64 1], .agg zeroLoad, .agg a.row] W (DoOf (fun _ => False) W y 0 go))) (hk : (a.k == 0) = true) (w : World) :
    Calls Try.prog 3 #[.agg a.row] w fun e w' => e = .returned (.bool true) ∧ Below w.heap.size w w' := by
  have A := Lib.hid awake17
  have N : Hid (∀ W : World, Calls Try.prog 16 #[.agg #[.int .i64 0, .int .i64 0, .int .i64 0, .int .i64 0]] W fun e w' => e = .returned (.pointer none) ∧ Below W.heap.size W w') := fun W => node_new_no ⟨0, 0, 0, 0⟩ ⟨by unfold I64; decide, by unfold I64; decide, by unfold I64; decide, by unfold I64; decide⟩ (fun h => by have := h.sa.1; simp at this) W
  have T := Lib.hid toldnil
  have F := Lib.hid node_frozen_nil
  have B0 := Lib.hid (below1 w (.cells a.row 29))
  have K0 : Hid ((w.alloc (.cells a.row 29)).heap[w.heap.size]? = some (.cells a.row 29 (0, 0))) := heap_alloc_at _ _ _ rfl
  go_enter Try.func3, Try.ntmps3
  go_upto_region 1 with fail
  generalize (w.alloc (.cells a.row 29)) = W0 at *
  go_wp2_with fail
  (with_reducible refine (A.out _).mono ?_)
  rintro e w1 ⟨rfl, hb⟩
  have B1 := Lib.hid (B0.out.trans (hb.mono B0.out.size))
  have K1 := Lib.hid ((hb.block _ (lt_of_heap K0.out)).trans K0.out)
  clear hb A K0 B0
  go_wp2_with fail
  (with_reducible refine (N.out _).mono ?_)
  rintro e w2 ⟨rfl, hb⟩
  have B2 := Lib.hid (B1.out.trans (hb.mono B1.out.size))
  have K2 := Lib.hid ((hb.block _ (lt_of_heap K1.out)).trans K1.out)
  clear hb N K1 B1
  go_wp2_with (first | ((with_reducible refine wpList_load_rowAs rfl 29 _ rfl (w.heap.size) ?_ 29 a.row (0, 0) _ 14 ?_ Try.underlying29 rfl (by kernel_rfl) ?_ ?_); exact rfl; exact K2.out; exact rfl) | fail)
  (with_reducible refine (P.out _).mono ?_)
  rintro e w3 ⟨rfl, hb⟩
  have B3 := Lib.hid (B2.out.trans (hb.mono B2.out.size))
  have K3 := Lib.hid ((hb.block _ (lt_of_heap K2.out)).trans K2.out)
  clear hb P K2 B2
  go_upto_region 7 with fail
  have hst := stab_and (stab_heap w.heap.size (.cells a.row 29 (0, 0))) (stab_below (B := w.heap.size) (w0 := w) (Nat.le_refl _))
  refine wp_region_E mixed [] hst ⟨K3.out, below_drew B3.out⟩ ?_
  clear K3 B3
  refine wpAnyE_take 0 (v := .agg #[.int .i64 1, .int .i64 2, .int .i64 1, .int .i64 1]) rfl (by kernel_rfl) (by kernel_rfl) (by kernel_rfl) (fun _ _ _ h => h) hst (EffB.run rfl rfl (fun wd hS => ?_)) (.inl (by kernel_rfl)) ?_
  · (go_wp2_with fail; (with_reducible refine (small17 wd).mono ?_); rintro e w'' ⟨rfl, hb⟩; exact ⟨rfl, hb⟩)
  simp only [act_norm]
  refine wpAnyE_take 1 (v := .agg zeroLoad) rfl (by kernel_rfl) (by kernel_rfl) (by kernel_rfl) (fun _ _ _ h => h) hst (EffB.run rfl rfl (fun wd hS => ?_)) (.inr (EffB.run rfl rfl (fun wd hS => ?_))) ?_
  · (go_wp2; exact ⟨rfl, Below.refl _ _⟩)
  · (go_wp2; exact ⟨rfl, Below.refl _ _⟩)
  simp only [act_norm]
  refine wpAnyE_take 2 (v := .agg a.row) rfl (by kernel_rfl) (by kernel_rfl) (by kernel_rfl) (fun _ _ _ h => h) hst (EffB.run rfl rfl (fun wd hS => ?_)) (.inl (by kernel_rfl)) ?_
  · exact wp_load_row 29 _ rfl (w.heap.size) rfl 29 a.row (0, 0) _ (hS.1) Try.underlying29 rfl (by kernel_rfl) ⟨rfl, Below.refl _ _⟩
  simp only [act_norm]
  refine wpAnyE_two 3 8 rfl rfl (by kernel_rfl) rfl rfl (fun wd hS => ?_) (fun wd hS => ?_)
  · go_wp2_with fail
    (with_reducible refine (R.out _).mono ?_)
    rintro e w4 ⟨p, c, q, d, t, rfl, _, _, hb⟩
    have Y := Lib.hid (hst _ _ hS hb)
    refine ⟨_, Y.out, hst, (by first | exact fun _ h => h | exact .inr fun _ h => h), ?_⟩
    clear hS hb Y R
    obtain ⟨y0, y1, y2, y3, y4, y5, y6, y7, y8, y9, HY⟩ : ∃ y0 y1 y2 y3 y4 y5 y6 y7 y8 y9 : Value, Hid (y.val p c q d = #[y0, y1, y2, y3, y4, y5, y6, y7, y8, y9] ∧ (#[y0, y1, y2, y3, y4, y5, y6, y7, y8, y9] : Array Value).all (·.oneCell') = true) := ⟨_, _, _, _, _, _, _, _, _, _, Lib.hid ⟨rfl, by simp [Value.oneCell']⟩⟩
    rw [HY.out.1]
    try simp only [act_norm]
    refine wpAnyE_take 4 rfl (by kernel_rfl) (by kernel_rfl) (by kernel_rfl) (fun _ _ _ h => h) hst (EffB.pure rfl (fun _ => rfl)) (.inr (EffB.pure rfl (fun _ => rfl))) ?_
    simp only [act_norm]
    refine wpAnyE_take 5 (v := .agg #[y0, y1, y2, y3, y4, y5, y6, y7, y8, y9]) rfl (by kernel_rfl) (by kernel_rfl) (by kernel_rfl) (fun _ _ _ h => h) hst (EffB.run rfl rfl (fun wd hS => ?_)) (.inr (EffB.run rfl rfl (fun wd hS => ?_))) ?_
    · (go_wp2; exact ⟨rfl, Below.refl _ _⟩)
    · (go_wp2; exact ⟨rfl, Below.refl _ _⟩)
    simp only [act_norm]
    refine wpAnyE_take 6 (v := .int .i64 0) rfl (by kernel_rfl) (by kernel_rfl) (by kernel_rfl) (fun _ _ _ h => h) hst (EffB.run rfl rfl (fun wd hS => ?_)) (.inr (EffB.run rfl rfl (fun wd hS => ?_))) ?_
    · (go_wp2; exact ⟨rfl, Below.refl _ _⟩)
    · (go_wp2; exact ⟨rfl, Below.refl _ _⟩)
    simp only [act_norm]
    refine wpAnyE_take 7 (v := .int .i64 t) rfl (by kernel_rfl) (by kernel_rfl) (by kernel_rfl) (fun _ _ _ h => h) hst (EffB.run rfl rfl (fun wd hS => ?_)) (.inr (EffB.run rfl rfl (fun wd hS => ?_))) ?_
    · (go_wp2; exact ⟨rfl, Below.refl _ _⟩)
    · (go_wp2; exact ⟨rfl, Below.refl _ _⟩)
    simp only [act_norm]
    refine wpAnyE_one 8 rfl (by kernel_rfl) rfl (fun wd hS => ?_)
    have hst2 := stab_and hst (stab_row10 (n := wd.heap.size))
    have Y1 : Hid ((((wd.alloc (.cells zeroLoad 40)).heap[w.heap.size]? = some (.cells a.row 29 (0, 0)) ∧ Below w.heap.size w (wd.alloc (.cells zeroLoad 40))) ∧ ∃ cs : Array Value, cs.size = 10 ∧ (wd.alloc (.cells zeroLoad 40)).heap[wd.heap.size]? = some (.cells cs 40 (0, 0)))) := ⟨hst _ _ hS (below1 _ _), _, rfl, heap_alloc_at _ _ _ rfl⟩
    have XL := Lib.hid (And.intro hS.2.size (lt_of_heap hS.1))
    clear hS
    go_wp2
    refine ⟨_, Y1.out, hst2, (by first | exact fun _ h => h.1 | exact .inr fun _ h => h.1), ?_⟩
    obtain ⟨X, hX⟩ : ∃ X, wd.heap.size = X := ⟨_, rfl⟩
    rw [hX] at hst2 XL ⊢
    clear Y1 hst hX
    try simp only [act_norm]
    have hst := hst2
    clear hst2
    refine wpAnyE_one 9 rfl (by kernel_rfl) rfl (fun wd hS => ?_)
    obtain ⟨old, hold, hrow⟩ := hS.2
    refine wp_store_row 40 _ _ rfl X #[y0, y1, y2, y3, y4, y5, y6, y7, y8, y9] rfl rfl 40 old hrow loadSize hold HY.out.2 ?_
    have Y := Lib.hid (And.intro (And.intro ((setRow_other wd X w.heap.size #[y0, y1, y2, y3, y4, y5, y6, y7, y8, y9] (by have := XL.out; omega)).trans hS.1.1) (below_setRow hS.1.2 XL.out.1 #[y0, y1, y2, y3, y4, y5, y6, y7, y8, y9])) (show ∃ cs : Array Value, cs.size = 10 ∧ (wd.setRow X #[y0, y1, y2, y3, y4, y5, y6, y7, y8, y9]).heap[X]? = some (.cells cs 40 (0, 0)) from ⟨_, rfl, setRow_heap _ _ _ #[y0, y1, y2, y3, y4, y5, y6, y7, y8, y9] _ _ hrow⟩))
    clear hS hrow hold
    refine ⟨_, Y.out, hst, (by first | exact fun _ h => h | exact .inr fun _ h => h), ?_⟩
    clear Y
    try simp only [act_norm]
    refine wpAnyE_take 10 rfl (by kernel_rfl) (by kernel_rfl) (by kernel_rfl) (fun _ _ _ h => h) hst (EffB.pure rfl (fun _ => rfl)) (.inr (EffB.pure rfl (fun _ => rfl))) ?_
    simp only [act_norm]
    refine wpAnyE_take 11 rfl (by kernel_rfl) (by kernel_rfl) (by kernel_rfl) (fun _ _ _ h => h) hst (EffB.pure rfl (fun _ => rfl)) (.inr (EffB.pure rfl (fun _ => rfl))) ?_
    simp only [act_norm]
    refine wpAnyE_done (by kernel_rfl) (fun wd hS => ?_) _
    have B4 := Lib.hid hS.1.2
    have k0 : wd.cell? ⟨w.heap.size, 0, none⟩ = some (.int .i64 a.k) := by rw [cell_of_row _ _ _ _ _ _ hS.1.1]; rfl
    clear hS hst
    go_wp2_with fail
    (with_reducible refine (T.out _).mono ?_)
    rintro e w5 ⟨rfl, hb⟩
    have B5 := Lib.hid (B4.out.trans (hb.mono B4.out.size))
    clear hb
    go_wp2_with ((with_reducible refine (F.out _).mono ?_); rintro e w6 ⟨rfl, rfl⟩)
    go_ret
    exact ⟨rfl, B5.out⟩
  · have hst2 := stab_and hst (stab_row10 (n := wd.heap.size))
    have Y1 : Hid ((((wd.alloc (.cells zeroLoad 40)).heap[w.heap.size]? = some (.cells a.row 29 (0, 0)) ∧ Below w.heap.size w (wd.alloc (.cells zeroLoad 40))) ∧ ∃ cs : Array Value, cs.size = 10 ∧ (wd.alloc (.cells zeroLoad 40)).heap[wd.heap.size]? = some (.cells cs 40 (0, 0)))) := ⟨hst _ _ hS (below1 _ _), _, rfl, heap_alloc_at _ _ _ rfl⟩
    have XL := Lib.hid (And.intro hS.2.size (lt_of_heap hS.1))
    clear hS
    go_wp2
    refine ⟨_, Y1.out, hst2, (by first | exact fun _ h => h.1 | exact .inr fun _ h => h.1), ?_⟩
    obtain ⟨X, hX⟩ : ∃ X, wd.heap.size = X := ⟨_, rfl⟩
    rw [hX] at hst2 XL ⊢
    clear Y1 hst hX
    try simp only [act_norm]
    have hst := hst2
    clear hst2
    refine wpAnyE_one 3 rfl (by kernel_rfl) rfl (fun wd hS => ?_)
    go_wp2_with fail
    (with_reducible refine (R.out _).mono ?_)
    rintro e w4 ⟨p, c, q, d, t, rfl, _, _, hb⟩
    have Y := Lib.hid (hst _ _ hS hb)
    refine ⟨_, Y.out, hst, (by first | exact fun _ h => h | exact .inr fun _ h => h), ?_⟩
    clear hS hb Y R
    obtain ⟨y0, y1, y2, y3, y4, y5, y6, y7, y8, y9, HY⟩ : ∃ y0 y1 y2 y3 y4 y5 y6 y7 y8 y9 : Value, Hid (y.val p c q d = #[y0, y1, y2, y3, y4, y5, y6, y7, y8, y9] ∧ (#[y0, y1, y2, y3, y4, y5, y6, y7, y8, y9] : Array Value).all (·.oneCell') = true) := ⟨_, _, _, _, _, _, _, _, _, _, Lib.hid ⟨rfl, by simp [Value.oneCell']⟩⟩
    rw [HY.out.1]
    try simp only [act_norm]
    refine wpAnyE_take 4 rfl (by kernel_rfl) (by kernel_rfl) (by kernel_rfl) (fun _ _ _ h => h) hst (EffB.pure rfl (fun _ => rfl)) (.inr (EffB.pure rfl (fun _ => rfl))) ?_
    simp only [act_norm]
    refine wpAnyE_take 5 (v := .agg #[y0, y1, y2, y3, y4, y5, y6, y7, y8, y9]) rfl (by kernel_rfl) (by kernel_rfl) (by kernel_rfl) (fun _ _ _ h => h) hst (EffB.run rfl rfl (fun wd hS => ?_)) (.inr (EffB.run rfl rfl (fun wd hS => ?_))) ?_
    · (go_wp2; exact ⟨rfl, Below.refl _ _⟩)
    · (go_wp2; exact ⟨rfl, Below.refl _ _⟩)
    simp only [act_norm]
    refine wpAnyE_take 6 (v := .int .i64 0) rfl (by kernel_rfl) (by kernel_rfl) (by kernel_rfl) (fun _ _ _ h => h) hst (EffB.run rfl rfl (fun wd hS => ?_)) (.inr (EffB.run rfl rfl (fun wd hS => ?_))) ?_
    · (go_wp2; exact ⟨rfl, Below.refl _ _⟩)
    · (go_wp2; exact ⟨rfl, Below.refl _ _⟩)
    simp only [act_norm]
    refine wpAnyE_take 7 (v := .int .i64 t) rfl (by kernel_rfl) (by kernel_rfl) (by kernel_rfl) (fun _ _ _ h => h) hst (EffB.run rfl rfl (fun wd hS => ?_)) (.inr (EffB.run rfl rfl (fun wd hS => ?_))) ?_
    · (go_wp2; exact ⟨rfl, Below.refl _ _⟩)
    · (go_wp2; exact ⟨rfl, Below.refl _ _⟩)
    simp only [act_norm]
    refine wpAnyE_one 9 rfl (by kernel_rfl) rfl (fun wd hS => ?_)
    obtain ⟨old, hold, hrow⟩ := hS.2
    refine wp_store_row 40 _ _ rfl X #[y0, y1, y2, y3, y4, y5, y6, y7, y8, y9] rfl rfl 40 old hrow loadSize hold HY.out.2 ?_
    have Y := Lib.hid (And.intro (And.intro ((setRow_other wd X w.heap.size #[y0, y1, y2, y3, y4, y5, y6, y7, y8, y9] (by have := XL.out; omega)).trans hS.1.1) (below_setRow hS.1.2 XL.out.1 #[y0, y1, y2, y3, y4, y5, y6, y7, y8, y9])) (show ∃ cs : Array Value, cs.size = 10 ∧ (wd.setRow X #[y0, y1, y2, y3, y4, y5, y6, y7, y8, y9]).heap[X]? = some (.cells cs 40 (0, 0)) from ⟨_, rfl, setRow_heap _ _ _ #[y0, y1, y2, y3, y4, y5, y6, y7, y8, y9] _ _ hrow⟩))
    clear hS hrow hold
    refine ⟨_, Y.out, hst, (by first | exact fun _ h => h | exact .inr fun _ h => h), ?_⟩
    clear Y
    try simp only [act_norm]
    refine wpAnyE_take 10 rfl (by kernel_rfl) (by kernel_rfl) (by kernel_rfl) (fun _ _ _ h => h) hst (EffB.pure rfl (fun _ => rfl)) (.inr (EffB.pure rfl (fun _ => rfl))) ?_
    simp only [act_norm]
    refine wpAnyE_take 11 rfl (by kernel_rfl) (by kernel_rfl) (by kernel_rfl) (fun _ _ _ h => h) hst (EffB.pure rfl (fun _ => rfl)) (.inr (EffB.pure rfl (fun _ => rfl))) ?_
    simp only [act_norm]
    refine wpAnyE_done (by kernel_rfl) (fun wd hS => ?_) _
    have B4 := Lib.hid hS.1.2
    have k0 : wd.cell? ⟨w.heap.size, 0, none⟩ = some (.int .i64 a.k) := by rw [cell_of_row _ _ _ _ _ _ hS.1.1]; rfl
    clear hS hst
    go_wp2_with fail
    (with_reducible refine (T.out _).mono ?_)
    rintro e w5 ⟨rfl, hb⟩
    have B5 := Lib.hid (B4.out.trans (hb.mono B4.out.size))
    clear hb
    go_wp2_with ((with_reducible refine (F.out _).mono ?_); rintro e w6 ⟨rfl, rfl⟩)
    go_ret
    exact ⟨rfl, B5.out⟩
set_option maxHeartbeats 2000000 in
set_option maxRecDepth 100000 in
theorem nodeNone_C (a : Nac) (y : NS) (go : Option Nat) (P : Hid (∀ W : World, Calls Try.prog 17 #[.pointer none, .agg a.row] W fun e w' => e = .returned (.tuple #[.pointer none, .int .i64 5, .int .i64 0]) ∧ Below W.heap.size W w'))
    (R : Hid (∀ W : World, Calls Try.prog 18 #[.agg #[.int .i64 1, .int .i64 2, .int .i64 1, .int .i64 1], .agg zeroLoad, .agg a.row] W (DoOf (fun _ => False) W y 0 go))) (hk0 : (a.k == 0) = false) (hk : (a.k == 2) = true) (w : World) :
    Calls Try.prog 3 #[.agg a.row] w fun e w' => e = .returned (.bool true) ∧ Below w.heap.size w w' := by
  have A := Lib.hid awake17
  have N : Hid (∀ W : World, Calls Try.prog 16 #[.agg #[.int .i64 0, .int .i64 0, .int .i64 0, .int .i64 0]] W fun e w' => e = .returned (.pointer none) ∧ Below W.heap.size W w') := fun W => node_new_no ⟨0, 0, 0, 0⟩ ⟨by unfold I64; decide, by unfold I64; decide, by unfold I64; decide, by unfold I64; decide⟩ (fun h => by have := h.sa.1; simp at this) W
  have T := Lib.hid toldnil
  have F := Lib.hid node_frozen_nil
  have B0 := Lib.hid (below1 w (.cells a.row 29))
  have K0 : Hid ((w.alloc (.cells a.row 29)).heap[w.heap.size]? = some (.cells a.row 29 (0, 0))) := heap_alloc_at _ _ _ rfl
  go_enter Try.func3, Try.ntmps3
  go_upto_region 1 with fail
  generalize (w.alloc (.cells a.row 29)) = W0 at *
  go_wp2_with fail
  (with_reducible refine (A.out _).mono ?_)
  rintro e w1 ⟨rfl, hb⟩
  have B1 := Lib.hid (B0.out.trans (hb.mono B0.out.size))
  have K1 := Lib.hid ((hb.block _ (lt_of_heap K0.out)).trans K0.out)
  clear hb A K0 B0
  go_wp2_with fail
  (with_reducible refine (N.out _).mono ?_)
  rintro e w2 ⟨rfl, hb⟩
  have B2 := Lib.hid (B1.out.trans (hb.mono B1.out.size))
  have K2 := Lib.hid ((hb.block _ (lt_of_heap K1.out)).trans K1.out)
  clear hb N K1 B1
  go_wp2_with (first | ((with_reducible refine wpList_load_rowAs rfl 29 _ rfl (w.heap.size) ?_ 29 a.row (0, 0) _ 14 ?_ Try.underlying29 rfl (by kernel_rfl) ?_ ?_); exact rfl; exact K2.out; exact rfl) | fail)
  (with_reducible refine (P.out _).mono ?_)
  rintro e w3 ⟨rfl, hb⟩
  have B3 := Lib.hid (B2.out.trans (hb.mono B2.out.size))
  have K3 := Lib.hid ((hb.block _ (lt_of_heap K2.out)).trans K2.out)
  clear hb P K2 B2
  go_upto_region 7 with fail
  have hst := stab_and (stab_heap w.heap.size (.cells a.row 29 (0, 0))) (stab_below (B := w.heap.size) (w0 := w) (Nat.le_refl _))
  refine wp_region_E mixed [] hst ⟨K3.out, below_drew B3.out⟩ ?_
  clear K3 B3
  refine wpAnyE_take 0 (v := .agg #[.int .i64 1, .int .i64 2, .int .i64 1, .int .i64 1]) rfl (by kernel_rfl) (by kernel_rfl) (by kernel_rfl) (fun _ _ _ h => h) hst (EffB.run rfl rfl (fun wd hS => ?_)) (.inl (by kernel_rfl)) ?_
  · (go_wp2_with fail; (with_reducible refine (small17 wd).mono ?_); rintro e w'' ⟨rfl, hb⟩; exact ⟨rfl, hb⟩)
  simp only [act_norm]
  refine wpAnyE_take 1 (v := .agg zeroLoad) rfl (by kernel_rfl) (by kernel_rfl) (by kernel_rfl) (fun _ _ _ h => h) hst (EffB.run rfl rfl (fun wd hS => ?_)) (.inr (EffB.run rfl rfl (fun wd hS => ?_))) ?_
  · (go_wp2; exact ⟨rfl, Below.refl _ _⟩)
  · (go_wp2; exact ⟨rfl, Below.refl _ _⟩)
  simp only [act_norm]
  refine wpAnyE_take 2 (v := .agg a.row) rfl (by kernel_rfl) (by kernel_rfl) (by kernel_rfl) (fun _ _ _ h => h) hst (EffB.run rfl rfl (fun wd hS => ?_)) (.inl (by kernel_rfl)) ?_
  · exact wp_load_row 29 _ rfl (w.heap.size) rfl 29 a.row (0, 0) _ (hS.1) Try.underlying29 rfl (by kernel_rfl) ⟨rfl, Below.refl _ _⟩
  simp only [act_norm]
  refine wpAnyE_two 3 8 rfl rfl (by kernel_rfl) rfl rfl (fun wd hS => ?_) (fun wd hS => ?_)
  · go_wp2_with fail
    (with_reducible refine (R.out _).mono ?_)
    rintro e w4 ⟨p, c, q, d, t, rfl, _, _, hb⟩
    have Y := Lib.hid (hst _ _ hS hb)
    refine ⟨_, Y.out, hst, (by first | exact fun _ h => h | exact .inr fun _ h => h), ?_⟩
    clear hS hb Y R
    obtain ⟨y0, y1, y2, y3, y4, y5, y6, y7, y8, y9, HY⟩ : ∃ y0 y1 y2 y3 y4 y5 y6 y7 y8 y9 : Value, Hid (y.val p c q d = #[y0, y1, y2, y3, y4, y5, y6, y7, y8, y9] ∧ (#[y0, y1, y2, y3, y4, y5, y6, y7, y8, y9] : Array Value).all (·.oneCell') = true) := ⟨_, _, _, _, _, _, _, _, _, _, Lib.hid ⟨rfl, by simp [Value.oneCell']⟩⟩
    rw [HY.out.1]
    try simp only [act_norm]
    refine wpAnyE_take 4 rfl (by kernel_rfl) (by kernel_rfl) (by kernel_rfl) (fun _ _ _ h => h) hst (EffB.pure rfl (fun _ => rfl)) (.inr (EffB.pure rfl (fun _ => rfl))) ?_
    simp only [act_norm]
    refine wpAnyE_take 5 (v := .agg #[y0, y1, y2, y3, y4, y5, y6, y7, y8, y9]) rfl (by kernel_rfl) (by kernel_rfl) (by kernel_rfl) (fun _ _ _ h => h) hst (EffB.run rfl rfl (fun wd hS => ?_)) (.inr (EffB.run rfl rfl (fun wd hS => ?_))) ?_
    · (go_wp2; exact ⟨rfl, Below.refl _ _⟩)
    · (go_wp2; exact ⟨rfl, Below.refl _ _⟩)
    simp only [act_norm]
    refine wpAnyE_take 6 (v := .int .i64 0) rfl (by kernel_rfl) (by kernel_rfl) (by kernel_rfl) (fun _ _ _ h => h) hst (EffB.run rfl rfl (fun wd hS => ?_)) (.inr (EffB.run rfl rfl (fun wd hS => ?_))) ?_
    · (go_wp2; exact ⟨rfl, Below.refl _ _⟩)
    · (go_wp2; exact ⟨rfl, Below.refl _ _⟩)
    simp only [act_norm]
    refine wpAnyE_take 7 (v := .int .i64 t) rfl (by kernel_rfl) (by kernel_rfl) (by kernel_rfl) (fun _ _ _ h => h) hst (EffB.run rfl rfl (fun wd hS => ?_)) (.inr (EffB.run rfl rfl (fun wd hS => ?_))) ?_
    · (go_wp2; exact ⟨rfl, Below.refl _ _⟩)
    · (go_wp2; exact ⟨rfl, Below.refl _ _⟩)
    simp only [act_norm]
    refine wpAnyE_one 8 rfl (by kernel_rfl) rfl (fun wd hS => ?_)
    have hst2 := stab_and hst (stab_row10 (n := wd.heap.size))
    have Y1 : Hid ((((wd.alloc (.cells zeroLoad 40)).heap[w.heap.size]? = some (.cells a.row 29 (0, 0)) ∧ Below w.heap.size w (wd.alloc (.cells zeroLoad 40))) ∧ ∃ cs : Array Value, cs.size = 10 ∧ (wd.alloc (.cells zeroLoad 40)).heap[wd.heap.size]? = some (.cells cs 40 (0, 0)))) := ⟨hst _ _ hS (below1 _ _), _, rfl, heap_alloc_at _ _ _ rfl⟩
    have XL := Lib.hid (And.intro hS.2.size (lt_of_heap hS.1))
    clear hS
    go_wp2
    refine ⟨_, Y1.out, hst2, (by first | exact fun _ h => h.1 | exact .inr fun _ h => h.1), ?_⟩
    obtain ⟨X, hX⟩ : ∃ X, wd.heap.size = X := ⟨_, rfl⟩
    rw [hX] at hst2 XL ⊢
    clear Y1 hst hX
    try simp only [act_norm]
    have hst := hst2
    clear hst2
    refine wpAnyE_one 9 rfl (by kernel_rfl) rfl (fun wd hS => ?_)
    obtain ⟨old, hold, hrow⟩ := hS.2
    refine wp_store_row 40 _ _ rfl X #[y0, y1, y2, y3, y4, y5, y6, y7, y8, y9] rfl rfl 40 old hrow loadSize hold HY.out.2 ?_
    have Y := Lib.hid (And.intro (And.intro ((setRow_other wd X w.heap.size #[y0, y1, y2, y3, y4, y5, y6, y7, y8, y9] (by have := XL.out; omega)).trans hS.1.1) (below_setRow hS.1.2 XL.out.1 #[y0, y1, y2, y3, y4, y5, y6, y7, y8, y9])) (show ∃ cs : Array Value, cs.size = 10 ∧ (wd.setRow X #[y0, y1, y2, y3, y4, y5, y6, y7, y8, y9]).heap[X]? = some (.cells cs 40 (0, 0)) from ⟨_, rfl, setRow_heap _ _ _ #[y0, y1, y2, y3, y4, y5, y6, y7, y8, y9] _ _ hrow⟩))
    clear hS hrow hold
    refine ⟨_, Y.out, hst, (by first | exact fun _ h => h | exact .inr fun _ h => h), ?_⟩
    clear Y
    try simp only [act_norm]
    refine wpAnyE_take 10 rfl (by kernel_rfl) (by kernel_rfl) (by kernel_rfl) (fun _ _ _ h => h) hst (EffB.pure rfl (fun _ => rfl)) (.inr (EffB.pure rfl (fun _ => rfl))) ?_
    simp only [act_norm]
    refine wpAnyE_take 11 rfl (by kernel_rfl) (by kernel_rfl) (by kernel_rfl) (fun _ _ _ h => h) hst (EffB.pure rfl (fun _ => rfl)) (.inr (EffB.pure rfl (fun _ => rfl))) ?_
    simp only [act_norm]
    refine wpAnyE_done (by kernel_rfl) (fun wd hS => ?_) _
    have B4 := Lib.hid hS.1.2
    have k0 : wd.cell? ⟨w.heap.size, 0, none⟩ = some (.int .i64 a.k) := by rw [cell_of_row _ _ _ _ _ _ hS.1.1]; rfl
    clear hS hst
    go_wp2_with fail
    (with_reducible refine (T.out _).mono ?_)
    rintro e w5 ⟨rfl, hb⟩
    have B5 := Lib.hid (B4.out.trans (hb.mono B4.out.size))
    clear hb
    go_wp2_with ((with_reducible refine (F.out _).mono ?_); rintro e w6 ⟨rfl, rfl⟩)
    go_ret
    exact ⟨rfl, B5.out⟩
  · have hst2 := stab_and hst (stab_row10 (n := wd.heap.size))
    have Y1 : Hid ((((wd.alloc (.cells zeroLoad 40)).heap[w.heap.size]? = some (.cells a.row 29 (0, 0)) ∧ Below w.heap.size w (wd.alloc (.cells zeroLoad 40))) ∧ ∃ cs : Array Value, cs.size = 10 ∧ (wd.alloc (.cells zeroLoad 40)).heap[wd.heap.size]? = some (.cells cs 40 (0, 0)))) := ⟨hst _ _ hS (below1 _ _), _, rfl, heap_alloc_at _ _ _ rfl⟩
    have XL := Lib.hid (And.intro hS.2.size (lt_of_heap hS.1))
    clear hS
    go_wp2
    refine ⟨_, Y1.out, hst2, (by first | exact fun _ h => h.1 | exact .inr fun _ h => h.1), ?_⟩
    obtain ⟨X, hX⟩ : ∃ X, wd.heap.size = X := ⟨_, rfl⟩
    rw [hX] at hst2 XL ⊢
    clear Y1 hst hX
    try simp only [act_norm]
    have hst := hst2
    clear hst2
    refine wpAnyE_one 3 rfl (by kernel_rfl) rfl (fun wd hS => ?_)
    go_wp2_with fail
    (with_reducible refine (R.out _).mono ?_)
    rintro e w4 ⟨p, c, q, d, t, rfl, _, _, hb⟩
    have Y := Lib.hid (hst _ _ hS hb)
    refine ⟨_, Y.out, hst, (by first | exact fun _ h => h | exact .inr fun _ h => h), ?_⟩
    clear hS hb Y R
    obtain ⟨y0, y1, y2, y3, y4, y5, y6, y7, y8, y9, HY⟩ : ∃ y0 y1 y2 y3 y4 y5 y6 y7 y8 y9 : Value, Hid (y.val p c q d = #[y0, y1, y2, y3, y4, y5, y6, y7, y8, y9] ∧ (#[y0, y1, y2, y3, y4, y5, y6, y7, y8, y9] : Array Value).all (·.oneCell') = true) := ⟨_, _, _, _, _, _, _, _, _, _, Lib.hid ⟨rfl, by simp [Value.oneCell']⟩⟩
    rw [HY.out.1]
    try simp only [act_norm]
    refine wpAnyE_take 4 rfl (by kernel_rfl) (by kernel_rfl) (by kernel_rfl) (fun _ _ _ h => h) hst (EffB.pure rfl (fun _ => rfl)) (.inr (EffB.pure rfl (fun _ => rfl))) ?_
    simp only [act_norm]
    refine wpAnyE_take 5 (v := .agg #[y0, y1, y2, y3, y4, y5, y6, y7, y8, y9]) rfl (by kernel_rfl) (by kernel_rfl) (by kernel_rfl) (fun _ _ _ h => h) hst (EffB.run rfl rfl (fun wd hS => ?_)) (.inr (EffB.run rfl rfl (fun wd hS => ?_))) ?_
    · (go_wp2; exact ⟨rfl, Below.refl _ _⟩)
    · (go_wp2; exact ⟨rfl, Below.refl _ _⟩)
    simp only [act_norm]
    refine wpAnyE_take 6 (v := .int .i64 0) rfl (by kernel_rfl) (by kernel_rfl) (by kernel_rfl) (fun _ _ _ h => h) hst (EffB.run rfl rfl (fun wd hS => ?_)) (.inr (EffB.run rfl rfl (fun wd hS => ?_))) ?_
    · (go_wp2; exact ⟨rfl, Below.refl _ _⟩)
    · (go_wp2; exact ⟨rfl, Below.refl _ _⟩)
    simp only [act_norm]
    refine wpAnyE_take 7 (v := .int .i64 t) rfl (by kernel_rfl) (by kernel_rfl) (by kernel_rfl) (fun _ _ _ h => h) hst (EffB.run rfl rfl (fun wd hS => ?_)) (.inr (EffB.run rfl rfl (fun wd hS => ?_))) ?_
    · (go_wp2; exact ⟨rfl, Below.refl _ _⟩)
    · (go_wp2; exact ⟨rfl, Below.refl _ _⟩)
    simp only [act_norm]
    refine wpAnyE_one 9 rfl (by kernel_rfl) rfl (fun wd hS => ?_)
    obtain ⟨old, hold, hrow⟩ := hS.2
    refine wp_store_row 40 _ _ rfl X #[y0, y1, y2, y3, y4, y5, y6, y7, y8, y9] rfl rfl 40 old hrow loadSize hold HY.out.2 ?_
    have Y := Lib.hid (And.intro (And.intro ((setRow_other wd X w.heap.size #[y0, y1, y2, y3, y4, y5, y6, y7, y8, y9] (by have := XL.out; omega)).trans hS.1.1) (below_setRow hS.1.2 XL.out.1 #[y0, y1, y2, y3, y4, y5, y6, y7, y8, y9])) (show ∃ cs : Array Value, cs.size = 10 ∧ (wd.setRow X #[y0, y1, y2, y3, y4, y5, y6, y7, y8, y9]).heap[X]? = some (.cells cs 40 (0, 0)) from ⟨_, rfl, setRow_heap _ _ _ #[y0, y1, y2, y3, y4, y5, y6, y7, y8, y9] _ _ hrow⟩))
    clear hS hrow hold
    refine ⟨_, Y.out, hst, (by first | exact fun _ h => h | exact .inr fun _ h => h), ?_⟩
    clear Y
    try simp only [act_norm]
    refine wpAnyE_take 10 rfl (by kernel_rfl) (by kernel_rfl) (by kernel_rfl) (fun _ _ _ h => h) hst (EffB.pure rfl (fun _ => rfl)) (.inr (EffB.pure rfl (fun _ => rfl))) ?_
    simp only [act_norm]
    refine wpAnyE_take 11 rfl (by kernel_rfl) (by kernel_rfl) (by kernel_rfl) (fun _ _ _ h => h) hst (EffB.pure rfl (fun _ => rfl)) (.inr (EffB.pure rfl (fun _ => rfl))) ?_
    simp only [act_norm]
    refine wpAnyE_done (by kernel_rfl) (fun wd hS => ?_) _
    have B4 := Lib.hid hS.1.2
    have k0 : wd.cell? ⟨w.heap.size, 0, none⟩ = some (.int .i64 a.k) := by rw [cell_of_row _ _ _ _ _ _ hS.1.1]; rfl
    clear hS hst
    go_wp2_with fail
    (with_reducible refine (T.out _).mono ?_)
    rintro e w5 ⟨rfl, hb⟩
    have B5 := Lib.hid (B4.out.trans (hb.mono B4.out.size))
    clear hb
    go_wp2_with ((with_reducible refine (F.out _).mono ?_); rintro e w6 ⟨rfl, rfl⟩)
    go_ret
    exact ⟨rfl, B5.out⟩
set_option maxHeartbeats 2000000 in
set_option maxRecDepth 100000 in
theorem nodeNone_D (a : Nac) (y : NS) (go : Option Nat) (P : Hid (∀ W : World, Calls Try.prog 17 #[.pointer none, .agg a.row] W fun e w' => e = .returned (.tuple #[.pointer none, .int .i64 0, .int .i64 0]) ∧ Below W.heap.size W w'))
    (R : Hid (∀ W : World, Calls Try.prog 18 #[.agg #[.int .i64 1, .int .i64 2, .int .i64 1, .int .i64 1], .agg zeroLoad, .agg a.row] W (DoOf (fun _ => False) W y 0 go))) (hk0 : (a.k == 0) = false) (hk : (a.k == 2) = false) (w : World) :
    Calls Try.prog 3 #[.agg a.row] w fun e w' => e = .returned (.bool true) ∧ Below w.heap.size w w' := by
  have A := Lib.hid awake17
  have N : Hid (∀ W : World, Calls Try.prog 16 #[.agg #[.int .i64 0, .int .i64 0, .int .i64 0, .int .i64 0]] W fun e w' => e = .returned (.pointer none) ∧ Below W.heap.size W w') := fun W => node_new_no ⟨0, 0, 0, 0⟩ ⟨by unfold I64; decide, by unfold I64; decide, by unfold I64; decide, by unfold I64; decide⟩ (fun h => by have := h.sa.1; simp at this) W
  have T := Lib.hid toldnil
  have F := Lib.hid node_frozen_nil
  have B0 := Lib.hid (below1 w (.cells a.row 29))
  have K0 : Hid ((w.alloc (.cells a.row 29)).heap[w.heap.size]? = some (.cells a.row 29 (0, 0))) := heap_alloc_at _ _ _ rfl
  go_enter Try.func3, Try.ntmps3
  go_upto_region 1 with fail
  generalize (w.alloc (.cells a.row 29)) = W0 at *
  go_wp2_with fail
  (with_reducible refine (A.out _).mono ?_)
  rintro e w1 ⟨rfl, hb⟩
  have B1 := Lib.hid (B0.out.trans (hb.mono B0.out.size))
  have K1 := Lib.hid ((hb.block _ (lt_of_heap K0.out)).trans K0.out)
  clear hb A K0 B0
  go_wp2_with fail
  (with_reducible refine (N.out _).mono ?_)
  rintro e w2 ⟨rfl, hb⟩
  have B2 := Lib.hid (B1.out.trans (hb.mono B1.out.size))
  have K2 := Lib.hid ((hb.block _ (lt_of_heap K1.out)).trans K1.out)
  clear hb N K1 B1
  go_wp2_with (first | ((with_reducible refine wpList_load_rowAs rfl 29 _ rfl (w.heap.size) ?_ 29 a.row (0, 0) _ 14 ?_ Try.underlying29 rfl (by kernel_rfl) ?_ ?_); exact rfl; exact K2.out; exact rfl) | fail)
  (with_reducible refine (P.out _).mono ?_)
  rintro e w3 ⟨rfl, hb⟩
  have B3 := Lib.hid (B2.out.trans (hb.mono B2.out.size))
  have K3 := Lib.hid ((hb.block _ (lt_of_heap K2.out)).trans K2.out)
  clear hb P K2 B2
  go_upto_region 7 with fail
  have hst := stab_and (stab_heap w.heap.size (.cells a.row 29 (0, 0))) (stab_below (B := w.heap.size) (w0 := w) (Nat.le_refl _))
  refine wp_region_E mixed [] hst ⟨K3.out, below_drew B3.out⟩ ?_
  clear K3 B3
  refine wpAnyE_take 0 (v := .agg #[.int .i64 1, .int .i64 2, .int .i64 1, .int .i64 1]) rfl (by kernel_rfl) (by kernel_rfl) (by kernel_rfl) (fun _ _ _ h => h) hst (EffB.run rfl rfl (fun wd hS => ?_)) (.inl (by kernel_rfl)) ?_
  · (go_wp2_with fail; (with_reducible refine (small17 wd).mono ?_); rintro e w'' ⟨rfl, hb⟩; exact ⟨rfl, hb⟩)
  simp only [act_norm]
  refine wpAnyE_take 1 (v := .agg zeroLoad) rfl (by kernel_rfl) (by kernel_rfl) (by kernel_rfl) (fun _ _ _ h => h) hst (EffB.run rfl rfl (fun wd hS => ?_)) (.inr (EffB.run rfl rfl (fun wd hS => ?_))) ?_
  · (go_wp2; exact ⟨rfl, Below.refl _ _⟩)
  · (go_wp2; exact ⟨rfl, Below.refl _ _⟩)
  simp only [act_norm]
  refine wpAnyE_take 2 (v := .agg a.row) rfl (by kernel_rfl) (by kernel_rfl) (by kernel_rfl) (fun _ _ _ h => h) hst (EffB.run rfl rfl (fun wd hS => ?_)) (.inl (by kernel_rfl)) ?_
  · exact wp_load_row 29 _ rfl (w.heap.size) rfl 29 a.row (0, 0) _ (hS.1) Try.underlying29 rfl (by kernel_rfl) ⟨rfl, Below.refl _ _⟩
  simp only [act_norm]
  refine wpAnyE_two 3 8 rfl rfl (by kernel_rfl) rfl rfl (fun wd hS => ?_) (fun wd hS => ?_)
  · go_wp2_with fail
    (with_reducible refine (R.out _).mono ?_)
    rintro e w4 ⟨p, c, q, d, t, rfl, _, _, hb⟩
    have Y := Lib.hid (hst _ _ hS hb)
    refine ⟨_, Y.out, hst, (by first | exact fun _ h => h | exact .inr fun _ h => h), ?_⟩
    clear hS hb Y R
    obtain ⟨y0, y1, y2, y3, y4, y5, y6, y7, y8, y9, HY⟩ : ∃ y0 y1 y2 y3 y4 y5 y6 y7 y8 y9 : Value, Hid (y.val p c q d = #[y0, y1, y2, y3, y4, y5, y6, y7, y8, y9] ∧ (#[y0, y1, y2, y3, y4, y5, y6, y7, y8, y9] : Array Value).all (·.oneCell') = true) := ⟨_, _, _, _, _, _, _, _, _, _, Lib.hid ⟨rfl, by simp [Value.oneCell']⟩⟩
    rw [HY.out.1]
    try simp only [act_norm]
    refine wpAnyE_take 4 rfl (by kernel_rfl) (by kernel_rfl) (by kernel_rfl) (fun _ _ _ h => h) hst (EffB.pure rfl (fun _ => rfl)) (.inr (EffB.pure rfl (fun _ => rfl))) ?_
    simp only [act_norm]
    refine wpAnyE_take 5 (v := .agg #[y0, y1, y2, y3, y4, y5, y6, y7, y8, y9]) rfl (by kernel_rfl) (by kernel_rfl) (by kernel_rfl) (fun _ _ _ h => h) hst (EffB.run rfl rfl (fun wd hS => ?_)) (.inr (EffB.run rfl rfl (fun wd hS => ?_))) ?_
    · (go_wp2; exact ⟨rfl, Below.refl _ _⟩)
    · (go_wp2; exact ⟨rfl, Below.refl _ _⟩)
    simp only [act_norm]
    refine wpAnyE_take 6 (v := .int .i64 0) rfl (by kernel_rfl) (by kernel_rfl) (by kernel_rfl) (fun _ _ _ h => h) hst (EffB.run rfl rfl (fun wd hS => ?_)) (.inr (EffB.run rfl rfl (fun wd hS => ?_))) ?_
    · (go_wp2; exact ⟨rfl, Below.refl _ _⟩)
    · (go_wp2; exact ⟨rfl, Below.refl _ _⟩)
    simp only [act_norm]
    refine wpAnyE_take 7 (v := .int .i64 t) rfl (by kernel_rfl) (by kernel_rfl) (by kernel_rfl) (fun _ _ _ h => h) hst (EffB.run rfl rfl (fun wd hS => ?_)) (.inr (EffB.run rfl rfl (fun wd hS => ?_))) ?_
    · (go_wp2; exact ⟨rfl, Below.refl _ _⟩)
    · (go_wp2; exact ⟨rfl, Below.refl _ _⟩)
    simp only [act_norm]
    refine wpAnyE_one 8 rfl (by kernel_rfl) rfl (fun wd hS => ?_)
    have hst2 := stab_and hst (stab_row10 (n := wd.heap.size))
    have Y1 : Hid ((((wd.alloc (.cells zeroLoad 40)).heap[w.heap.size]? = some (.cells a.row 29 (0, 0)) ∧ Below w.heap.size w (wd.alloc (.cells zeroLoad 40))) ∧ ∃ cs : Array Value, cs.size = 10 ∧ (wd.alloc (.cells zeroLoad 40)).heap[wd.heap.size]? = some (.cells cs 40 (0, 0)))) := ⟨hst _ _ hS (below1 _ _), _, rfl, heap_alloc_at _ _ _ rfl⟩
    have XL := Lib.hid (And.intro hS.2.size (lt_of_heap hS.1))
    clear hS
    go_wp2
    refine ⟨_, Y1.out, hst2, (by first | exact fun _ h => h.1 | exact .inr fun _ h => h.1), ?_⟩
    obtain ⟨X, hX⟩ : ∃ X, wd.heap.size = X := ⟨_, rfl⟩
    rw [hX] at hst2 XL ⊢
    clear Y1 hst hX
    try simp only [act_norm]
    have hst := hst2
    clear hst2
    refine wpAnyE_one 9 rfl (by kernel_rfl) rfl (fun wd hS => ?_)
    obtain ⟨old, hold, hrow⟩ := hS.2
    refine wp_store_row 40 _ _ rfl X #[y0, y1, y2, y3, y4, y5, y6, y7, y8, y9] rfl rfl 40 old hrow loadSize hold HY.out.2 ?_
    have Y := Lib.hid (And.intro (And.intro ((setRow_other wd X w.heap.size #[y0, y1, y2, y3, y4, y5, y6, y7, y8, y9] (by have := XL.out; omega)).trans hS.1.1) (below_setRow hS.1.2 XL.out.1 #[y0, y1, y2, y3, y4, y5, y6, y7, y8, y9])) (show ∃ cs : Array Value, cs.size = 10 ∧ (wd.setRow X #[y0, y1, y2, y3, y4, y5, y6, y7, y8, y9]).heap[X]? = some (.cells cs 40 (0, 0)) from ⟨_, rfl, setRow_heap _ _ _ #[y0, y1, y2, y3, y4, y5, y6, y7, y8, y9] _ _ hrow⟩))
    clear hS hrow hold
    refine ⟨_, Y.out, hst, (by first | exact fun _ h => h | exact .inr fun _ h => h), ?_⟩
    clear Y
    try simp only [act_norm]
    refine wpAnyE_take 10 rfl (by kernel_rfl) (by kernel_rfl) (by kernel_rfl) (fun _ _ _ h => h) hst (EffB.pure rfl (fun _ => rfl)) (.inr (EffB.pure rfl (fun _ => rfl))) ?_
    simp only [act_norm]
    refine wpAnyE_take 11 rfl (by kernel_rfl) (by kernel_rfl) (by kernel_rfl) (fun _ _ _ h => h) hst (EffB.pure rfl (fun _ => rfl)) (.inr (EffB.pure rfl (fun _ => rfl))) ?_
    simp only [act_norm]
    refine wpAnyE_done (by kernel_rfl) (fun wd hS => ?_) _
    have B4 := Lib.hid hS.1.2
    have k0 : wd.cell? ⟨w.heap.size, 0, none⟩ = some (.int .i64 a.k) := by rw [cell_of_row _ _ _ _ _ _ hS.1.1]; rfl
    clear hS hst
    go_wp2_with fail
    (with_reducible refine (T.out _).mono ?_)
    rintro e w5 ⟨rfl, hb⟩
    have B5 := Lib.hid (B4.out.trans (hb.mono B4.out.size))
    clear hb
    go_wp2_with ((with_reducible refine (F.out _).mono ?_); rintro e w6 ⟨rfl, rfl⟩)
    go_ret
    exact ⟨rfl, B5.out⟩
  · have hst2 := stab_and hst (stab_row10 (n := wd.heap.size))
    have Y1 : Hid ((((wd.alloc (.cells zeroLoad 40)).heap[w.heap.size]? = some (.cells a.row 29 (0, 0)) ∧ Below w.heap.size w (wd.alloc (.cells zeroLoad 40))) ∧ ∃ cs : Array Value, cs.size = 10 ∧ (wd.alloc (.cells zeroLoad 40)).heap[wd.heap.size]? = some (.cells cs 40 (0, 0)))) := ⟨hst _ _ hS (below1 _ _), _, rfl, heap_alloc_at _ _ _ rfl⟩
    have XL := Lib.hid (And.intro hS.2.size (lt_of_heap hS.1))
    clear hS
    go_wp2
    refine ⟨_, Y1.out, hst2, (by first | exact fun _ h => h.1 | exact .inr fun _ h => h.1), ?_⟩
    obtain ⟨X, hX⟩ : ∃ X, wd.heap.size = X := ⟨_, rfl⟩
    rw [hX] at hst2 XL ⊢
    clear Y1 hst hX
    try simp only [act_norm]
    have hst := hst2
    clear hst2
    refine wpAnyE_one 3 rfl (by kernel_rfl) rfl (fun wd hS => ?_)
    go_wp2_with fail
    (with_reducible refine (R.out _).mono ?_)
    rintro e w4 ⟨p, c, q, d, t, rfl, _, _, hb⟩
    have Y := Lib.hid (hst _ _ hS hb)
    refine ⟨_, Y.out, hst, (by first | exact fun _ h => h | exact .inr fun _ h => h), ?_⟩
    clear hS hb Y R
    obtain ⟨y0, y1, y2, y3, y4, y5, y6, y7, y8, y9, HY⟩ : ∃ y0 y1 y2 y3 y4 y5 y6 y7 y8 y9 : Value, Hid (y.val p c q d = #[y0, y1, y2, y3, y4, y5, y6, y7, y8, y9] ∧ (#[y0, y1, y2, y3, y4, y5, y6, y7, y8, y9] : Array Value).all (·.oneCell') = true) := ⟨_, _, _, _, _, _, _, _, _, _, Lib.hid ⟨rfl, by simp [Value.oneCell']⟩⟩
    rw [HY.out.1]
    try simp only [act_norm]
    refine wpAnyE_take 4 rfl (by kernel_rfl) (by kernel_rfl) (by kernel_rfl) (fun _ _ _ h => h) hst (EffB.pure rfl (fun _ => rfl)) (.inr (EffB.pure rfl (fun _ => rfl))) ?_
    simp only [act_norm]
    refine wpAnyE_take 5 (v := .agg #[y0, y1, y2, y3, y4, y5, y6, y7, y8, y9]) rfl (by kernel_rfl) (by kernel_rfl) (by kernel_rfl) (fun _ _ _ h => h) hst (EffB.run rfl rfl (fun wd hS => ?_)) (.inr (EffB.run rfl rfl (fun wd hS => ?_))) ?_
    · (go_wp2; exact ⟨rfl, Below.refl _ _⟩)
    · (go_wp2; exact ⟨rfl, Below.refl _ _⟩)
    simp only [act_norm]
    refine wpAnyE_take 6 (v := .int .i64 0) rfl (by kernel_rfl) (by kernel_rfl) (by kernel_rfl) (fun _ _ _ h => h) hst (EffB.run rfl rfl (fun wd hS => ?_)) (.inr (EffB.run rfl rfl (fun wd hS => ?_))) ?_
    · (go_wp2; exact ⟨rfl, Below.refl _ _⟩)
    · (go_wp2; exact ⟨rfl, Below.refl _ _⟩)
    simp only [act_norm]
    refine wpAnyE_take 7 (v := .int .i64 t) rfl (by kernel_rfl) (by kernel_rfl) (by kernel_rfl) (fun _ _ _ h => h) hst (EffB.run rfl rfl (fun wd hS => ?_)) (.inr (EffB.run rfl rfl (fun wd hS => ?_))) ?_
    · (go_wp2; exact ⟨rfl, Below.refl _ _⟩)
    · (go_wp2; exact ⟨rfl, Below.refl _ _⟩)
    simp only [act_norm]
    refine wpAnyE_one 9 rfl (by kernel_rfl) rfl (fun wd hS => ?_)
    obtain ⟨old, hold, hrow⟩ := hS.2
    refine wp_store_row 40 _ _ rfl X #[y0, y1, y2, y3, y4, y5, y6, y7, y8, y9] rfl rfl 40 old hrow loadSize hold HY.out.2 ?_
    have Y := Lib.hid (And.intro (And.intro ((setRow_other wd X w.heap.size #[y0, y1, y2, y3, y4, y5, y6, y7, y8, y9] (by have := XL.out; omega)).trans hS.1.1) (below_setRow hS.1.2 XL.out.1 #[y0, y1, y2, y3, y4, y5, y6, y7, y8, y9])) (show ∃ cs : Array Value, cs.size = 10 ∧ (wd.setRow X #[y0, y1, y2, y3, y4, y5, y6, y7, y8, y9]).heap[X]? = some (.cells cs 40 (0, 0)) from ⟨_, rfl, setRow_heap _ _ _ #[y0, y1, y2, y3, y4, y5, y6, y7, y8, y9] _ _ hrow⟩))
    clear hS hrow hold
    refine ⟨_, Y.out, hst, (by first | exact fun _ h => h | exact .inr fun _ h => h), ?_⟩
    clear Y
    try simp only [act_norm]
    refine wpAnyE_take 10 rfl (by kernel_rfl) (by kernel_rfl) (by kernel_rfl) (fun _ _ _ h => h) hst (EffB.pure rfl (fun _ => rfl)) (.inr (EffB.pure rfl (fun _ => rfl))) ?_
    simp only [act_norm]
    refine wpAnyE_take 11 rfl (by kernel_rfl) (by kernel_rfl) (by kernel_rfl) (fun _ _ _ h => h) hst (EffB.pure rfl (fun _ => rfl)) (.inr (EffB.pure rfl (fun _ => rfl))) ?_
    simp only [act_norm]
    refine wpAnyE_done (by kernel_rfl) (fun wd hS => ?_) _
    have B4 := Lib.hid hS.1.2
    have k0 : wd.cell? ⟨w.heap.size, 0, none⟩ = some (.int .i64 a.k) := by rw [cell_of_row _ _ _ _ _ _ hS.1.1]; rfl
    clear hS hst
    go_wp2_with fail
    (with_reducible refine (T.out _).mono ?_)
    rintro e w5 ⟨rfl, hb⟩
    have B5 := Lib.hid (B4.out.trans (hb.mono B4.out.size))
    clear hb
    go_wp2_with ((with_reducible refine (F.out _).mono ?_); rintro e w6 ⟨rfl, rfl⟩)
    go_ret
    exact ⟨rfl, B5.out⟩

theorem nodeNone_walk (a : Nac) (w : World) : Calls Try.prog 3 #[.agg a.row] w fun e w' => e = .returned (.bool true) ∧ Below w.heap.size w w' := by
  have P := Lib.hid (law17_nil a)
  have R : Hid (∀ W : World, Calls Try.prog 18 #[.agg #[.int .i64 1, .int .i64 2, .int .i64 1, .int .i64 1], .agg zeroLoad, .agg a.row] W (DoOf (fun _ => False) W (NS.zero.act 2 1 a) a.code (NS.zero.gone1 a))) :=
    fun W => ref17_do (S := fun _ => False) (fun _ h => h.elim) (LAt.zero _ W) (NS.zero_ok (rs := 2) (rh := 1) (by omega) (by omega) (by omega) (by omega)) (by show 0 ≤ 100000; omega) 1 1 a
  by_cases h0 : a.k = 0
  · by_cases hc : Ser.code a.s = 0
    · rw [show a.ncode = 5 by simp [Nac.ncode, h0, hc]] at P
      rw [show a.code = 0 by simp [Nac.code, h0, hc]] at R
      exact nodeNone_B a _ _ P R (by simpa using h0) w
    · rw [show a.ncode = Ser.code a.s by simp [Nac.ncode, h0, hc]] at P
      rw [show a.code = Ser.code a.s by simp [Nac.code, h0]] at R
      exact nodeNone_A a _ _ _ P R (by simpa using hc) w
  · by_cases h2 : a.k = 2
    · by_cases hc : a.p.ok = true
      · rw [show a.ncode = 5 by simp [Nac.ncode, h2, hc]] at P
        rw [show a.code = 0 by simp [Nac.code, h2, hc]] at R
        exact nodeNone_C a _ _ P R (by simpa using h0) (by simpa using h2) w
      · rw [show a.ncode = 7 by simp [Nac.ncode, h2, hc]] at P
        rw [show a.code = 7 by simp [Nac.code, h2, hc]] at R
        exact nodeNone_A a _ _ _ P R (by decide) w
    · rw [show a.ncode = 0 by simp [Nac.ncode, h0, h2]] at P
      rw [show a.code = 0 by simp [Nac.code, h0, h2]] at R
      exact nodeNone_D a _ _ P R (by simpa using h0) (by simpa using h2) w
end Go.Proofs.Ytapgcbjlgekpeaa
