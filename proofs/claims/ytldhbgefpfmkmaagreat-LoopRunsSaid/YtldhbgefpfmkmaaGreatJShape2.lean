/- Layer 54: a shape's load at a tick, and the loads of shapes together: the program's. -/
import Derived.Test.YtldhbgefpfmkmaaGreatJShape
namespace Go.Proofs.YtldhbgefpfmkmaaGreat
open Go.ChangeShapes Go.WideShapes Go.ChangeAt Go.RowKit

theorem shp_up' (kd lo hi ph : Int) (p d : Nat) (e : hi - lo = d) (hlo : 0 ≤ lo) (hhi : hi ≤ 9223372036854775807) (hp : 1 ≤ p) (hp2 : p ≤ 2147483648) (K : Int) (h0 : 0 ≤ K) (h1 : K ≤ p) (w : World) :
    Calls Tryz.prog 34 #[.agg #[.int .i64 kd, .int .i64 lo, .int .i64 hi, .int .i64 p, .int .i64 ph], .int .i64 K] w fun e w' => e = .returned (.int .i64 (lo + K * (hi - lo) / p)) ∧ Below w.heap.size w w' := by
  obtain ⟨k, rfl⟩ : ∃ k : Nat, K = k := ⟨K.toNat, by omega⟩
  have h := shp_up kd lo hi ph p k d e hlo hhi hp hp2 (by omega) w
  rw [show ((k * d / p : Nat) : Int) = (k : Int) * (hi - lo) / p by rw [e]; simp] at h
  exact h

section
variable (lo hi ph t : Int) (pn d rn : Nat) (e : hi - lo = d) (hlo : 0 ≤ lo) (hhi : hi ≤ 9223372036854775807) (hp : 1 ≤ pn) (hp2 : pn ≤ 2147483648) (hr : rn < pn) (w : World)
set_option maxHeartbeats 1000000 in
set_option maxRecDepth 100000 in
theorem shp_at1 (C : ∀ w, Calls Tryz.prog 18 #[.agg #[.int .i64 1, .int .i64 lo, .int .i64 hi, .int .i64 pn, .int .i64 ph]] w fun e w' => e = .returned (.int .i64 0) ∧ Below w.heap.size w w') (P : ∀ w, Calls Tryz.prog 33 #[.agg #[.int .i64 1, .int .i64 lo, .int .i64 hi, .int .i64 pn, .int .i64 ph], .int .i64 t] w fun e w' => e = .returned (.int .i64 rn) ∧ Below w.heap.size w w')
    (v : Int) (hv0 : v = Shp.val ⟨1, lo, hi, pn, ph⟩ rn) :
    Calls Tryz.prog 20 #[.agg #[.int .i64 1, .int .i64 lo, .int .i64 hi, .int .i64 pn, .int .i64 ph], .int .i64 t] w fun e w' => e = .returned (.int .i64 v) ∧ Below w.heap.size w w' := by
  have HC := Lib.hid C
  have HP := Lib.hid P
  have hv : v = lo := hv0
  clear hv0
  have M0 := Lib.hid ((Mem.start w).alloc (.cells #[.int .i64 1, .int .i64 lo, .int .i64 hi, .int .i64 pn, .int .i64 ph] 44))
  have K0 := Lib.hid (M0.out.heap 0 rfl)
  have HV := Lib.hid hv
  clear hv
  go_enter Tryz.func20, Tryz.ntmps20
  go_wp2_with ((with_reducible refine wpList_load_rowAs rfl 44 _ rfl (w.heap.size) ?_ 44 #[.int .i64 1, .int .i64 lo, .int .i64 hi, .int .i64 pn, .int .i64 ph] (0, 0) _ 5 ?_ Tryz.underlying44 rfl (by kernel_rfl) ?_ ?_); exact rfl; exact K0.out; exact rfl)
  (with_reducible refine (HC.out _).mono ?_)
  rintro e w1 ⟨rfl, hb1⟩
  have M1 := Lib.hid (M0.out.call hb1)
  have K1 := Lib.hid (M1.out.heap 0 rfl)
  clear hb1 M0 K0
  go_wp2_with ((with_reducible refine wpList_load_rowAs rfl 44 _ rfl (w.heap.size) ?_ 44 #[.int .i64 1, .int .i64 lo, .int .i64 hi, .int .i64 pn, .int .i64 ph] (0, 0) _ 5 ?_ Tryz.underlying44 rfl (by kernel_rfl) ?_ ?_); exact rfl; exact K1.out; exact rfl)
  (with_reducible refine (HP.out _).mono ?_)
  rintro e w2 ⟨rfl, hb2⟩
  have M2 := Lib.hid (M1.out.call hb2)
  have K2 := Lib.hid (M2.out.heap 0 rfl)
  have c0 := M2.out.cell 0 0 rfl rfl
  have c1 := M2.out.cell 0 1 rfl rfl
  have c2 := M2.out.cell 0 2 rfl rfl
  have c3 := M2.out.cell 0 3 rfl rfl
  have HB := Lib.hid M2.out.below
  clear hb2 M1 K1
  go_wp2
  go_ret
  exact ⟨ret_int HV.out.symm, HB.out⟩

include e hlo hhi hp hp2 hr in
set_option maxHeartbeats 1000000 in
set_option maxRecDepth 100000 in
theorem shp_at2 (C : ∀ w, Calls Tryz.prog 18 #[.agg #[.int .i64 2, .int .i64 lo, .int .i64 hi, .int .i64 pn, .int .i64 ph]] w fun e w' => e = .returned (.int .i64 0) ∧ Below w.heap.size w w') (P : ∀ w, Calls Tryz.prog 33 #[.agg #[.int .i64 2, .int .i64 lo, .int .i64 hi, .int .i64 pn, .int .i64 ph], .int .i64 t] w fun e w' => e = .returned (.int .i64 rn) ∧ Below w.heap.size w w')
    (v : Int) (hv0 : v = Shp.val ⟨2, lo, hi, pn, ph⟩ rn) :
    Calls Tryz.prog 20 #[.agg #[.int .i64 2, .int .i64 lo, .int .i64 hi, .int .i64 pn, .int .i64 ph], .int .i64 t] w fun e w' => e = .returned (.int .i64 v) ∧ Below w.heap.size w w' := by
  have HC := Lib.hid C
  have HP := Lib.hid P
  have hv : v = lo + rn * (hi - lo) / pn := hv0
  clear hv0
  have U := Lib.hid (shp_up' 2 lo hi ph pn d e hlo hhi hp hp2 rn (by omega) (by omega))
  rw [← hv] at U
  have M0 := Lib.hid ((Mem.start w).alloc (.cells #[.int .i64 2, .int .i64 lo, .int .i64 hi, .int .i64 pn, .int .i64 ph] 44))
  have K0 := Lib.hid (M0.out.heap 0 rfl)
  clear hv
  go_enter Tryz.func20, Tryz.ntmps20
  go_wp2_with ((with_reducible refine wpList_load_rowAs rfl 44 _ rfl (w.heap.size) ?_ 44 #[.int .i64 2, .int .i64 lo, .int .i64 hi, .int .i64 pn, .int .i64 ph] (0, 0) _ 5 ?_ Tryz.underlying44 rfl (by kernel_rfl) ?_ ?_); exact rfl; exact K0.out; exact rfl)
  (with_reducible refine (HC.out _).mono ?_)
  rintro e w1 ⟨rfl, hb1⟩
  have M1 := Lib.hid (M0.out.call hb1)
  have K1 := Lib.hid (M1.out.heap 0 rfl)
  clear hb1 M0 K0
  go_wp2_with ((with_reducible refine wpList_load_rowAs rfl 44 _ rfl (w.heap.size) ?_ 44 #[.int .i64 2, .int .i64 lo, .int .i64 hi, .int .i64 pn, .int .i64 ph] (0, 0) _ 5 ?_ Tryz.underlying44 rfl (by kernel_rfl) ?_ ?_); exact rfl; exact K1.out; exact rfl)
  (with_reducible refine (HP.out _).mono ?_)
  rintro e w2 ⟨rfl, hb2⟩
  have M2 := Lib.hid (M1.out.call hb2)
  have K2 := Lib.hid (M2.out.heap 0 rfl)
  have c0 := M2.out.cell 0 0 rfl rfl
  have c1 := M2.out.cell 0 1 rfl rfl
  have c2 := M2.out.cell 0 2 rfl rfl
  have c3 := M2.out.cell 0 3 rfl rfl
  have HB := Lib.hid M2.out.below
  clear hb2 M1 K1
  go_wp2_with ((with_reducible refine wpList_load_rowAs rfl 44 _ rfl (w.heap.size) ?_ 44 #[.int .i64 2, .int .i64 lo, .int .i64 hi, .int .i64 pn, .int .i64 ph] (0, 0) _ 5 ?_ Tryz.underlying44 rfl (by kernel_rfl) ?_ ?_); exact rfl; exact K2.out; exact rfl)
  (with_reducible refine (U.out _).mono ?_)
  rintro e w3 ⟨rfl, hb3⟩
  have HB3 := Lib.hid (M2.out.call hb3).below
  clear hb3 HB
  go_wp2
  go_ret
  exact ⟨rfl, HB3.out⟩

include hp hp2 hr in
set_option maxHeartbeats 1000000 in
set_option maxRecDepth 100000 in
theorem shp_at3 (C : ∀ w, Calls Tryz.prog 18 #[.agg #[.int .i64 3, .int .i64 lo, .int .i64 hi, .int .i64 pn, .int .i64 ph]] w fun e w' => e = .returned (.int .i64 0) ∧ Below w.heap.size w w') (P : ∀ w, Calls Tryz.prog 33 #[.agg #[.int .i64 3, .int .i64 lo, .int .i64 hi, .int .i64 pn, .int .i64 ph], .int .i64 t] w fun e w' => e = .returned (.int .i64 rn) ∧ Below w.heap.size w w')
    (v : Int) (hv0 : v = Shp.val ⟨3, lo, hi, pn, ph⟩ rn) :
    Calls Tryz.prog 20 #[.agg #[.int .i64 3, .int .i64 lo, .int .i64 hi, .int .i64 pn, .int .i64 ph], .int .i64 t] w fun e w' => e = .returned (.int .i64 v) ∧ Below w.heap.size w w' := by
  have HC := Lib.hid C
  have HP := Lib.hid P
  have hv : v = (if (pn : Int) ≤ 2 * rn then hi else lo) := hv0
  clear hv0
  have M0 := Lib.hid ((Mem.start w).alloc (.cells #[.int .i64 3, .int .i64 lo, .int .i64 hi, .int .i64 pn, .int .i64 ph] 44))
  have K0 := Lib.hid (M0.out.heap 0 rfl)
  by_cases hz : (pn : Int) ≤ 2 * rn
  · have HV := Lib.hid (hv.trans (if_pos hz))
    have hz2 : ¬ 2 * (rn : Int) < pn := by omega
    clear hv
    go_enter Tryz.func20, Tryz.ntmps20
    go_wp2_with ((with_reducible refine wpList_load_rowAs rfl 44 _ rfl (w.heap.size) ?_ 44 #[.int .i64 3, .int .i64 lo, .int .i64 hi, .int .i64 pn, .int .i64 ph] (0, 0) _ 5 ?_ Tryz.underlying44 rfl (by kernel_rfl) ?_ ?_); exact rfl; exact K0.out; exact rfl)
    (with_reducible refine (HC.out _).mono ?_)
    rintro e w1 ⟨rfl, hb1⟩
    have M1 := Lib.hid (M0.out.call hb1)
    have K1 := Lib.hid (M1.out.heap 0 rfl)
    clear hb1 M0 K0
    go_wp2_with ((with_reducible refine wpList_load_rowAs rfl 44 _ rfl (w.heap.size) ?_ 44 #[.int .i64 3, .int .i64 lo, .int .i64 hi, .int .i64 pn, .int .i64 ph] (0, 0) _ 5 ?_ Tryz.underlying44 rfl (by kernel_rfl) ?_ ?_); exact rfl; exact K1.out; exact rfl)
    (with_reducible refine (HP.out _).mono ?_)
    rintro e w2 ⟨rfl, hb2⟩
    have M2 := Lib.hid (M1.out.call hb2)
    have K2 := Lib.hid (M2.out.heap 0 rfl)
    have c0 := M2.out.cell 0 0 rfl rfl
    have c1 := M2.out.cell 0 1 rfl rfl
    have c2 := M2.out.cell 0 2 rfl rfl
    have c3 := M2.out.cell 0 3 rfl rfl
    have HB := Lib.hid M2.out.below
    clear hb2 M1 K1
    go_wp2
    go_ret
    exact ⟨ret_int HV.out.symm, HB.out⟩
  · have HV := Lib.hid (hv.trans (if_neg hz))
    clear hv
    go_enter Tryz.func20, Tryz.ntmps20
    go_wp2_with ((with_reducible refine wpList_load_rowAs rfl 44 _ rfl (w.heap.size) ?_ 44 #[.int .i64 3, .int .i64 lo, .int .i64 hi, .int .i64 pn, .int .i64 ph] (0, 0) _ 5 ?_ Tryz.underlying44 rfl (by kernel_rfl) ?_ ?_); exact rfl; exact K0.out; exact rfl)
    (with_reducible refine (HC.out _).mono ?_)
    rintro e w1 ⟨rfl, hb1⟩
    have M1 := Lib.hid (M0.out.call hb1)
    have K1 := Lib.hid (M1.out.heap 0 rfl)
    clear hb1 M0 K0
    go_wp2_with ((with_reducible refine wpList_load_rowAs rfl 44 _ rfl (w.heap.size) ?_ 44 #[.int .i64 3, .int .i64 lo, .int .i64 hi, .int .i64 pn, .int .i64 ph] (0, 0) _ 5 ?_ Tryz.underlying44 rfl (by kernel_rfl) ?_ ?_); exact rfl; exact K1.out; exact rfl)
    (with_reducible refine (HP.out _).mono ?_)
    rintro e w2 ⟨rfl, hb2⟩
    have M2 := Lib.hid (M1.out.call hb2)
    have K2 := Lib.hid (M2.out.heap 0 rfl)
    have c0 := M2.out.cell 0 0 rfl rfl
    have c1 := M2.out.cell 0 1 rfl rfl
    have c2 := M2.out.cell 0 2 rfl rfl
    have c3 := M2.out.cell 0 3 rfl rfl
    have HB := Lib.hid M2.out.below
    clear hb2 M1 K1
    go_wp2
    go_ret
    exact ⟨ret_int HV.out.symm, HB.out⟩

include hr in
set_option maxHeartbeats 1000000 in
set_option maxRecDepth 100000 in
theorem shp_at4 (C : ∀ w, Calls Tryz.prog 18 #[.agg #[.int .i64 4, .int .i64 lo, .int .i64 hi, .int .i64 pn, .int .i64 ph]] w fun e w' => e = .returned (.int .i64 0) ∧ Below w.heap.size w w') (P : ∀ w, Calls Tryz.prog 33 #[.agg #[.int .i64 4, .int .i64 lo, .int .i64 hi, .int .i64 pn, .int .i64 ph], .int .i64 t] w fun e w' => e = .returned (.int .i64 rn) ∧ Below w.heap.size w w')
    (v : Int) (hv0 : v = Shp.val ⟨4, lo, hi, pn, ph⟩ rn) :
    Calls Tryz.prog 20 #[.agg #[.int .i64 4, .int .i64 lo, .int .i64 hi, .int .i64 pn, .int .i64 ph], .int .i64 t] w fun e w' => e = .returned (.int .i64 v) ∧ Below w.heap.size w w' := by
  have HC := Lib.hid C
  have HP := Lib.hid P
  have hv : v = (if (rn : Int) = 0 then hi else lo) := hv0
  clear hv0
  have M0 := Lib.hid ((Mem.start w).alloc (.cells #[.int .i64 4, .int .i64 lo, .int .i64 hi, .int .i64 pn, .int .i64 ph] 44))
  have K0 := Lib.hid (M0.out.heap 0 rfl)
  by_cases hz : rn = 0
  · have HV := Lib.hid (hv.trans (if_pos (by omega)))
    subst hz
    clear hv
    go_enter Tryz.func20, Tryz.ntmps20
    go_wp2_with ((with_reducible refine wpList_load_rowAs rfl 44 _ rfl (w.heap.size) ?_ 44 #[.int .i64 4, .int .i64 lo, .int .i64 hi, .int .i64 pn, .int .i64 ph] (0, 0) _ 5 ?_ Tryz.underlying44 rfl (by kernel_rfl) ?_ ?_); exact rfl; exact K0.out; exact rfl)
    (with_reducible refine (HC.out _).mono ?_)
    rintro e w1 ⟨rfl, hb1⟩
    have M1 := Lib.hid (M0.out.call hb1)
    have K1 := Lib.hid (M1.out.heap 0 rfl)
    clear hb1 M0 K0
    go_wp2_with ((with_reducible refine wpList_load_rowAs rfl 44 _ rfl (w.heap.size) ?_ 44 #[.int .i64 4, .int .i64 lo, .int .i64 hi, .int .i64 pn, .int .i64 ph] (0, 0) _ 5 ?_ Tryz.underlying44 rfl (by kernel_rfl) ?_ ?_); exact rfl; exact K1.out; exact rfl)
    (with_reducible refine (HP.out _).mono ?_)
    rintro e w2 ⟨rfl, hb2⟩
    have M2 := Lib.hid (M1.out.call hb2)
    have K2 := Lib.hid (M2.out.heap 0 rfl)
    have c0 := M2.out.cell 0 0 rfl rfl
    have c1 := M2.out.cell 0 1 rfl rfl
    have c2 := M2.out.cell 0 2 rfl rfl
    have c3 := M2.out.cell 0 3 rfl rfl
    have HB := Lib.hid M2.out.below
    clear hb2 M1 K1
    go_wp2
    go_ret
    exact ⟨ret_int HV.out.symm, HB.out⟩
  · have HV := Lib.hid (hv.trans (if_neg (by omega)))
    clear hv
    go_enter Tryz.func20, Tryz.ntmps20
    go_wp2_with ((with_reducible refine wpList_load_rowAs rfl 44 _ rfl (w.heap.size) ?_ 44 #[.int .i64 4, .int .i64 lo, .int .i64 hi, .int .i64 pn, .int .i64 ph] (0, 0) _ 5 ?_ Tryz.underlying44 rfl (by kernel_rfl) ?_ ?_); exact rfl; exact K0.out; exact rfl)
    (with_reducible refine (HC.out _).mono ?_)
    rintro e w1 ⟨rfl, hb1⟩
    have M1 := Lib.hid (M0.out.call hb1)
    have K1 := Lib.hid (M1.out.heap 0 rfl)
    clear hb1 M0 K0
    go_wp2_with ((with_reducible refine wpList_load_rowAs rfl 44 _ rfl (w.heap.size) ?_ 44 #[.int .i64 4, .int .i64 lo, .int .i64 hi, .int .i64 pn, .int .i64 ph] (0, 0) _ 5 ?_ Tryz.underlying44 rfl (by kernel_rfl) ?_ ?_); exact rfl; exact K1.out; exact rfl)
    (with_reducible refine (HP.out _).mono ?_)
    rintro e w2 ⟨rfl, hb2⟩
    have M2 := Lib.hid (M1.out.call hb2)
    have K2 := Lib.hid (M2.out.heap 0 rfl)
    have c0 := M2.out.cell 0 0 rfl rfl
    have c1 := M2.out.cell 0 1 rfl rfl
    have c2 := M2.out.cell 0 2 rfl rfl
    have c3 := M2.out.cell 0 3 rfl rfl
    have HB := Lib.hid M2.out.below
    clear hb2 M1 K1
    go_wp2
    go_ret
    exact ⟨ret_int HV.out.symm, HB.out⟩

include e hlo hhi hp hp2 hr in
set_option maxHeartbeats 1000000 in
set_option maxRecDepth 100000 in
theorem shp_at5 (C : ∀ w, Calls Tryz.prog 18 #[.agg #[.int .i64 5, .int .i64 lo, .int .i64 hi, .int .i64 pn, .int .i64 ph]] w fun e w' => e = .returned (.int .i64 0) ∧ Below w.heap.size w w') (P : ∀ w, Calls Tryz.prog 33 #[.agg #[.int .i64 5, .int .i64 lo, .int .i64 hi, .int .i64 pn, .int .i64 ph], .int .i64 t] w fun e w' => e = .returned (.int .i64 rn) ∧ Below w.heap.size w w')
    (v : Int) (hv0 : v = Shp.val ⟨5, lo, hi, pn, ph⟩ rn) :
    Calls Tryz.prog 20 #[.agg #[.int .i64 5, .int .i64 lo, .int .i64 hi, .int .i64 pn, .int .i64 ph], .int .i64 t] w fun e w' => e = .returned (.int .i64 v) ∧ Below w.heap.size w w' := by
  have HC := Lib.hid C
  have HP := Lib.hid P
  have hv : v = lo + (2 * min (rn : Int) (pn - rn)) * (hi - lo) / pn := hv0
  clear hv0
  have M0 := Lib.hid ((Mem.start w).alloc (.cells #[.int .i64 5, .int .i64 lo, .int .i64 hi, .int .i64 pn, .int .i64 ph] 44))
  have K0 := Lib.hid (M0.out.heap 0 rfl)
  by_cases hz : (rn : Int) ≤ pn - rn
  · rw [show min (rn : Int) (pn - rn) = (rn : Int) by omega] at hv
    have U := Lib.hid (shp_up' 5 lo hi ph pn d e hlo hhi hp hp2 (2 * (rn : Int)) (by omega) (by omega))
    rw [← hv] at U
    clear hv
    go_enter Tryz.func20, Tryz.ntmps20
    go_wp2_with ((with_reducible refine wpList_load_rowAs rfl 44 _ rfl (w.heap.size) ?_ 44 #[.int .i64 5, .int .i64 lo, .int .i64 hi, .int .i64 pn, .int .i64 ph] (0, 0) _ 5 ?_ Tryz.underlying44 rfl (by kernel_rfl) ?_ ?_); exact rfl; exact K0.out; exact rfl)
    (with_reducible refine (HC.out _).mono ?_)
    rintro e w1 ⟨rfl, hb1⟩
    have M1 := Lib.hid (M0.out.call hb1)
    have K1 := Lib.hid (M1.out.heap 0 rfl)
    clear hb1 M0 K0
    go_wp2_with ((with_reducible refine wpList_load_rowAs rfl 44 _ rfl (w.heap.size) ?_ 44 #[.int .i64 5, .int .i64 lo, .int .i64 hi, .int .i64 pn, .int .i64 ph] (0, 0) _ 5 ?_ Tryz.underlying44 rfl (by kernel_rfl) ?_ ?_); exact rfl; exact K1.out; exact rfl)
    (with_reducible refine (HP.out _).mono ?_)
    rintro e w2 ⟨rfl, hb2⟩
    have M2 := Lib.hid (M1.out.call hb2)
    have K2 := Lib.hid (M2.out.heap 0 rfl)
    have c0 := M2.out.cell 0 0 rfl rfl
    have c1 := M2.out.cell 0 1 rfl rfl
    have c2 := M2.out.cell 0 2 rfl rfl
    have c3 := M2.out.cell 0 3 rfl rfl
    have HB := Lib.hid M2.out.below
    clear hb2 M1 K1
    go_wp2_with ((with_reducible refine wpList_load_rowAs rfl 44 _ rfl (w.heap.size) ?_ 44 #[.int .i64 5, .int .i64 lo, .int .i64 hi, .int .i64 pn, .int .i64 ph] (0, 0) _ 5 ?_ Tryz.underlying44 rfl (by kernel_rfl) ?_ ?_); exact rfl; exact K2.out; exact rfl)
    (with_reducible refine (U.out _).mono ?_)
    rintro e w3 ⟨rfl, hb3⟩
    have HB3 := Lib.hid (M2.out.call hb3).below
    clear hb3 HB
    go_wp2
    go_ret
    exact ⟨rfl, HB3.out⟩
  · rw [show min (rn : Int) (pn - rn) = ((pn : Int) - rn) by omega] at hv
    have U := Lib.hid (shp_up' 5 lo hi ph pn d e hlo hhi hp hp2 (2 * ((pn : Int) - rn)) (by omega) (by omega))
    rw [← hv] at U
    clear hv
    go_enter Tryz.func20, Tryz.ntmps20
    go_wp2_with ((with_reducible refine wpList_load_rowAs rfl 44 _ rfl (w.heap.size) ?_ 44 #[.int .i64 5, .int .i64 lo, .int .i64 hi, .int .i64 pn, .int .i64 ph] (0, 0) _ 5 ?_ Tryz.underlying44 rfl (by kernel_rfl) ?_ ?_); exact rfl; exact K0.out; exact rfl)
    (with_reducible refine (HC.out _).mono ?_)
    rintro e w1 ⟨rfl, hb1⟩
    have M1 := Lib.hid (M0.out.call hb1)
    have K1 := Lib.hid (M1.out.heap 0 rfl)
    clear hb1 M0 K0
    go_wp2_with ((with_reducible refine wpList_load_rowAs rfl 44 _ rfl (w.heap.size) ?_ 44 #[.int .i64 5, .int .i64 lo, .int .i64 hi, .int .i64 pn, .int .i64 ph] (0, 0) _ 5 ?_ Tryz.underlying44 rfl (by kernel_rfl) ?_ ?_); exact rfl; exact K1.out; exact rfl)
    (with_reducible refine (HP.out _).mono ?_)
    rintro e w2 ⟨rfl, hb2⟩
    have M2 := Lib.hid (M1.out.call hb2)
    have K2 := Lib.hid (M2.out.heap 0 rfl)
    have c0 := M2.out.cell 0 0 rfl rfl
    have c1 := M2.out.cell 0 1 rfl rfl
    have c2 := M2.out.cell 0 2 rfl rfl
    have c3 := M2.out.cell 0 3 rfl rfl
    have HB := Lib.hid M2.out.below
    clear hb2 M1 K1
    go_wp2_with ((with_reducible refine wpList_load_rowAs rfl 44 _ rfl (w.heap.size) ?_ 44 #[.int .i64 5, .int .i64 lo, .int .i64 hi, .int .i64 pn, .int .i64 ph] (0, 0) _ 5 ?_ Tryz.underlying44 rfl (by kernel_rfl) ?_ ?_); exact rfl; exact K2.out; exact rfl)
    (with_reducible refine (U.out _).mono ?_)
    rintro e w3 ⟨rfl, hb3⟩
    have HB3 := Lib.hid (M2.out.call hb3).below
    clear hb3 HB
    go_wp2
    go_ret
    exact ⟨rfl, HB3.out⟩
end

set_option maxRecDepth 100000 in
theorem shp_at (s : Adv) (hs : s.In) (t : Int) (ht : I64 t) (w : World) :
    Calls Tryz.prog 20 #[.agg #[.int .i64 s.tick, .int .i64 s.load, .int .i64 s.want, .int .i64 s.repl, .int .i64 s.why], .int .i64 t] w fun e w' => e = .returned (.int .i64 (Shp.at s t)) ∧ Below w.heap.size w w' := by
  have C := shp_check s
  by_cases hc : Shp.code s = 0
  · have ho := Shp.ok_of hc
    have P := shp_place s hs hc t ht
    have hv : Shp.at s t = Shp.val s (Shp.spot s t) := if_pos hc
    have hr := Shp.spot_in ho t
    rw [hc] at C
    rw [hv]
    have hhi := hs.2.2.1.2
    obtain ⟨k1, k5, h1, h2, h3, h4⟩ := ho
    obtain ⟨r, er⟩ : ∃ r, r = Shp.spot s t := ⟨_, rfl⟩
    rw [← er] at P hr ⊢
    clear hs hc hv er
    obtain ⟨kd, lo, hi, p, ph⟩ := s
    simp only at *
    obtain ⟨pn, rfl⟩ : ∃ n : Nat, p = n := ⟨p.toNat, by omega⟩
    obtain ⟨rn, rfl⟩ : ∃ n : Nat, r = n := ⟨r.toNat, by omega⟩
    obtain ⟨d, e⟩ : ∃ n : Nat, hi - lo = n := ⟨(hi - lo).toNat, by omega⟩
    have hk : kd = 1 ∨ kd = 2 ∨ kd = 3 ∨ kd = 4 ∨ kd = 5 := by omega
    rcases hk with rfl | rfl | rfl | rfl | rfl
    · exact shp_at1 lo hi ph t pn rn w C P _ rfl
    · exact shp_at2 lo hi ph t pn d rn e h1 hhi (by omega) (by omega) (by omega) w C P _ rfl
    · exact shp_at3 lo hi ph t pn rn (by omega) (by omega) (by omega) w C P _ rfl
    · exact shp_at4 lo hi ph t pn rn (by omega) w C P _ rfl
    · exact shp_at5 lo hi ph t pn d rn e h1 hhi (by omega) (by omega) (by omega) w C P _ rfl
  · have hv : Shp.at s t = 0 := if_neg hc
    rw [hv]
    obtain ⟨c, ec⟩ : ∃ c, c = Shp.code s := ⟨_, rfl⟩
    rw [← ec] at C hc
    obtain ⟨kd, lo, hi, p, ph⟩ := s
    simp only at *
    have HC := Lib.hid C
    have hcb : (c == 0) = false := beq_eq_false_iff_ne.2 hc
    have M0 := Lib.hid ((Mem.start w).alloc (.cells #[.int .i64 kd, .int .i64 lo, .int .i64 hi, .int .i64 p, .int .i64 ph] 44))
    have K0 := Lib.hid (M0.out.heap 0 rfl)
    clear C ec hv hs ht
    go_enter Tryz.func20, Tryz.ntmps20
    go_wp2_with ((with_reducible refine wpList_load_rowAs rfl 44 _ rfl (w.heap.size) ?_ 44 #[.int .i64 kd, .int .i64 lo, .int .i64 hi, .int .i64 p, .int .i64 ph] (0, 0) _ 5 ?_ Tryz.underlying44 rfl (by kernel_rfl) ?_ ?_); exact rfl; exact K0.out; exact rfl)
    (with_reducible refine (HC.out _).mono ?_)
    rintro e w1 ⟨rfl, hb1⟩
    have HB := Lib.hid (M0.out.call hb1).below
    clear hb1
    go_wp2
    go_ret
    exact ⟨rfl, HB.out⟩
end Go.Proofs.YtldhbgefpfmkmaaGreat
