/- Contracts of layer 13 (control) and of its reference. -/
import Derived.Test.YtldhbgefpfmkmaaGreatJPol
import Derived.Test.YtldhbgefpfmkmaaGreatJWide3
import Derived.Test.YtldhbgefpfmkmaaGreatJBase
import Derived.Test.YtldhbgefpfmkmaaGreatJRef02c
namespace Go.Proofs.YtldhbgefpfmkmaaGreat
open Go.ChangeShapes Go.WideShapes Go.ChangeAt Go.RowKit

theorem control_right (p : Pol) (w : World) : Calls Tryz.prog 83 #[.agg #[.int .i64 p.mn, .int .i64 p.mx, .int .i64 p.tg, .int .i64 p.tl, .int .i64 p.wi, .int .i64 p.ho]] w fun e w' => e = .returned (.bool p.ok) ∧ Below w.heap.size w w' := by
  have hc := policy_check p
  by_cases h : p.ok = true
  · rw [h]
    rw [show p.err = 0 by unfold Pol.err; rw [if_pos h]] at hc
    have HC := Lib.hid hc
    clear hc h
    go_enter Tryz.func83, Tryz.ntmps83
    go_wp2_with fail
    (with_reducible refine (HC.out _).mono ?_)
    rintro e w1 ⟨rfl, hb1⟩
    have HB := Lib.hid ((below1 w _).trans (hb1.mono (by simp)))
    clear hb1
    go_wp2
    go_ret
    exact ⟨rfl, HB.out⟩
  · rw [show p.ok = false by simpa using h]
    rw [show p.err = 7 by unfold Pol.err; rw [if_neg h]] at hc
    have HC := Lib.hid hc
    clear hc h
    go_enter Tryz.func83, Tryz.ntmps83
    go_wp2_with fail
    (with_reducible refine (HC.out _).mono ?_)
    rintro e w1 ⟨rfl, hb1⟩
    have HB := Lib.hid ((below1 w _).trans (hb1.mono (by simp)))
    clear hb1
    go_wp2
    go_ret
    exact ⟨rfl, HB.out⟩

def Pol.want (p : Pol) (load : Int) : Int := if p.ok = true then Sat.ceil (max load 0) p.tg else 0
def Pol.bound (p : Pol) (n : Int) : Int := if p.ok = true then Sat.clampTo n p.mn p.mx else 0

set_option maxRecDepth 100000 in
theorem control_want (p : Pol) (load : Int) (hl : I64 load) (w : World) : Calls Tryz.prog 81 #[.agg #[.int .i64 p.mn, .int .i64 p.mx, .int .i64 p.tg, .int .i64 p.tl, .int .i64 p.wi, .int .i64 p.ho], .int .i64 load] w fun e w' => e = .returned (.int .i64 (p.want load)) ∧ Below w.heap.size w w' := by
  have hr := control_right p
  by_cases h : p.ok = true
  · have hs := sat_ceil (max load 0) p.tg (by unfold I64 at *; omega)
    have HE : Hid (p.want load = Sat.ceil (max load 0) p.tg) := by show p.want load = _; unfold Pol.want; rw [if_pos h]
    rw [h] at hr
    have HR := Lib.hid hr
    clear hr h
    by_cases h0 : 0 ≤ load
    all_goals
      first
      | rw [show max load 0 = load by omega] at hs HE
      | rw [show max load 0 = 0 by omega] at hs HE
      have HS := Lib.hid hs
      clear hs
      go_enter Tryz.func81, Tryz.ntmps81
      go_wp2_with fail
      (with_reducible refine (HR.out _).mono ?_)
      rintro e w1 ⟨rfl, hb1⟩
      have HB := Lib.hid ((below1 w _).trans (hb1.mono (by simp)))
      have k1 : w1.heap[w.heap.size]? = some (.cells #[.int .i64 p.mn, .int .i64 p.mx, .int .i64 p.tg, .int .i64 p.tl, .int .i64 p.wi, .int .i64 p.ho] 23 (0, 0)) := by rw [hb1.block _ (by simp)]; exact (by first | (with_reducible exact heap_1_0 _ _) | (with_reducible exact heap_2_0 _ _ _) | (with_reducible exact heap_2_1 _ _ _) | (with_reducible exact heap_3_0 _ _ _ _) | (with_reducible exact heap_3_1 _ _ _ _) | (with_reducible exact heap_3_2 _ _ _ _) | (with_reducible exact heap_4_0 _ _ _ _ _) | (with_reducible exact heap_4_1 _ _ _ _ _) | (with_reducible exact heap_4_2 _ _ _ _ _) | (with_reducible exact heap_4_3 _ _ _ _ _) | (with_reducible exact heap_5_0 _ _ _ _ _ _) | (with_reducible exact heap_5_1 _ _ _ _ _ _) | (with_reducible exact heap_5_2 _ _ _ _ _ _) | (with_reducible exact heap_5_3 _ _ _ _ _ _) | (with_reducible exact heap_5_4 _ _ _ _ _ _) | (with_reducible exact heap_6_0 _ _ _ _ _ _ _) | (with_reducible exact heap_6_1 _ _ _ _ _ _ _) | (with_reducible exact heap_6_2 _ _ _ _ _ _ _) | (with_reducible exact heap_6_3 _ _ _ _ _ _ _) | (with_reducible exact heap_6_4 _ _ _ _ _ _ _) | (with_reducible exact heap_6_5 _ _ _ _ _ _ _) | simp only [heap_alloc_past, heap_alloc_at, World.size_alloc, Nat.add_assoc, Nat.reduceAdd, Nat.lt_add_right_iff_pos, Nat.add_lt_add_iff_left, Nat.reduceLT, Nat.zero_lt_succ, Nat.lt_add_one])
      have c2 : w1.cell? ⟨w.heap.size, 2, none⟩ = some (.int .i64 p.tg) := by rw [cell_of_row _ _ _ _ _ _ k1]; rfl
      clear hb1 k1
      go_wp2_with fail
      (with_reducible refine (HS.out _).mono ?_)
      rintro e w2 ⟨rfl, rfl⟩
      go_wp2
      go_ret
      exact ⟨ret_int HE.out.symm, HB.out⟩
  · have HE : Hid (p.want load = 0) := by show p.want load = _; unfold Pol.want; rw [if_neg h]
    rw [show p.ok = false by simpa using h] at hr
    have HR := Lib.hid hr
    clear hr h
    go_enter Tryz.func81, Tryz.ntmps81
    go_wp2_with fail
    (with_reducible refine (HR.out _).mono ?_)
    rintro e w1 ⟨rfl, hb1⟩
    have HB := Lib.hid ((below1 w _).trans (hb1.mono (by simp)))
    clear hb1
    go_wp2
    go_ret
    exact ⟨ret_int HE.out.symm, HB.out⟩

set_option maxRecDepth 100000 in
theorem control_bound (p : Pol) (n : Int) (w : World) : Calls Tryz.prog 55 #[.agg #[.int .i64 p.mn, .int .i64 p.mx, .int .i64 p.tg, .int .i64 p.tl, .int .i64 p.wi, .int .i64 p.ho], .int .i64 n] w fun e w' => e = .returned (.int .i64 (p.bound n)) ∧ Below w.heap.size w w' := by
  have hr := control_right p
  by_cases h : p.ok = true
  · have hs := sat_clamp n p.mn p.mx
    have HE : Hid (p.bound n = Sat.clampTo n p.mn p.mx) := by show p.bound n = _; unfold Pol.bound; rw [if_pos h]
    rw [h] at hr
    have HR := Lib.hid hr
    have HS := Lib.hid hs
    clear hr hs h
    go_enter Tryz.func55, Tryz.ntmps55
    go_wp2_with fail
    (with_reducible refine (HR.out _).mono ?_)
    rintro e w1 ⟨rfl, hb1⟩
    have HB := Lib.hid ((below1 w _).trans (hb1.mono (by simp)))
    have k1 : w1.heap[w.heap.size]? = some (.cells #[.int .i64 p.mn, .int .i64 p.mx, .int .i64 p.tg, .int .i64 p.tl, .int .i64 p.wi, .int .i64 p.ho] 23 (0, 0)) := by rw [hb1.block _ (by simp)]; exact (by first | (with_reducible exact heap_1_0 _ _) | (with_reducible exact heap_2_0 _ _ _) | (with_reducible exact heap_2_1 _ _ _) | (with_reducible exact heap_3_0 _ _ _ _) | (with_reducible exact heap_3_1 _ _ _ _) | (with_reducible exact heap_3_2 _ _ _ _) | (with_reducible exact heap_4_0 _ _ _ _ _) | (with_reducible exact heap_4_1 _ _ _ _ _) | (with_reducible exact heap_4_2 _ _ _ _ _) | (with_reducible exact heap_4_3 _ _ _ _ _) | (with_reducible exact heap_5_0 _ _ _ _ _ _) | (with_reducible exact heap_5_1 _ _ _ _ _ _) | (with_reducible exact heap_5_2 _ _ _ _ _ _) | (with_reducible exact heap_5_3 _ _ _ _ _ _) | (with_reducible exact heap_5_4 _ _ _ _ _ _) | (with_reducible exact heap_6_0 _ _ _ _ _ _ _) | (with_reducible exact heap_6_1 _ _ _ _ _ _ _) | (with_reducible exact heap_6_2 _ _ _ _ _ _ _) | (with_reducible exact heap_6_3 _ _ _ _ _ _ _) | (with_reducible exact heap_6_4 _ _ _ _ _ _ _) | (with_reducible exact heap_6_5 _ _ _ _ _ _ _) | simp only [heap_alloc_past, heap_alloc_at, World.size_alloc, Nat.add_assoc, Nat.reduceAdd, Nat.lt_add_right_iff_pos, Nat.add_lt_add_iff_left, Nat.reduceLT, Nat.zero_lt_succ, Nat.lt_add_one])
    have c0 : w1.cell? ⟨w.heap.size, 0, none⟩ = some (.int .i64 p.mn) := by rw [cell_of_row _ _ _ _ _ _ k1]; rfl
    have c1 : w1.cell? ⟨w.heap.size, 1, none⟩ = some (.int .i64 p.mx) := by rw [cell_of_row _ _ _ _ _ _ k1]; rfl
    clear hb1 k1
    go_wp2_with fail
    (with_reducible refine (HS.out _).mono ?_)
    rintro e w2 ⟨rfl, rfl⟩
    go_wp2
    go_ret
    exact ⟨ret_int HE.out.symm, HB.out⟩
  · have HE : Hid (p.bound n = 0) := by show p.bound n = _; unfold Pol.bound; rw [if_neg h]
    rw [show p.ok = false by simpa using h] at hr
    have HR := Lib.hid hr
    clear hr h
    go_enter Tryz.func55, Tryz.ntmps55
    go_wp2_with fail
    (with_reducible refine (HR.out _).mono ?_)
    rintro e w1 ⟨rfl, hb1⟩
    have HB := Lib.hid ((below1 w _).trans (hb1.mono (by simp)))
    clear hb1
    go_wp2
    go_ret
    exact ⟨ret_int HE.out.symm, HB.out⟩

set_option maxRecDepth 100000 in
theorem control_within (a b o : Nat) (_ha : a < 340282366920938463463374607431768211456) (hb : b < 340282366920938463463374607431768211456) (ho : o < 340282366920938463463374607431768211456) (hs : b + o < 340282366920938463463374607431768211456) (w : World) :
    Calls Tryz.prog 100 #[two a, two b, two o] w fun e w' => e = .returned (.bool (decide (a ≤ b + o))) ∧ Below w.heap.size w w' := by
  have hadd : ∀ w, Calls Tryz.prog 109 #[.agg (cells2 b), .agg (cells2 o)] w fun e w' => e = .returned (.tuple #[.agg (cells2 (b + o)), .bool true]) ∧ Below w.heap.size w w' := by
    have := wide_add' b o hb ho
    rw [show Bits.sum b o = b + o by unfold Bits.sum; rw [if_pos hs], show Bits.fits b o = true from decide_eq_true hs] at this
    exact this
  obtain ⟨s, hse⟩ : ∃ s, s = b + o := ⟨_, rfl⟩
  have hcmp : ∀ w, Calls Tryz.prog 110 #[.agg (cells2 a), .agg (cells2 s)] w fun e w' => e = .returned (.int .i64 (Bits.cmp a s)) ∧ Below w.heap.size w w' := wide_cmp' a s
  have HV : Hid (decide (Bits.cmp a s ≤ 0) = decide (a ≤ s)) := by
    show decide (Bits.cmp a s ≤ 0) = decide (a ≤ s)
    unfold Bits.cmp
    by_cases h1 : a < s
    · rw [if_pos h1]; simp; omega
    · by_cases h2 : s < a
      · rw [if_neg h1, if_pos h2]; simp; omega
      · rw [if_neg h1, if_neg h2]; simp; omega
  rw [← hse] at hadd ⊢
  obtain ⟨c, hc⟩ : ∃ c, c = Bits.cmp a s := ⟨_, rfl⟩
  rw [← hc] at hcmp HV
  have HADD := Lib.hid hadd
  have HCMP := Lib.hid hcmp
  clear hadd hcmp hse hs hc _ha hb ho
  rw [two_cells a, two_cells b, two_cells o]
  go_enter Tryz.func100, Tryz.ntmps100
  have K0 : Hid (Below w.heap.size w (((w.alloc (.cells (cells2 a) 108)).alloc (.cells (cells2 b) 108)).alloc (.cells (cells2 o) 108))) := below3 _ _ _ _
  go_wp2_with (first | ((with_reducible refine wpList_load_rowAs rfl 108 _ rfl ((w.heap.size + 1)) ?_ 108 (cells2 b) (0, 0) _ 2 ?_ Tryz.underlying108 rfl twoInfo rfl ?_); exact rfl; exact (by first | (with_reducible exact heap_1_0 _ _) | (with_reducible exact heap_2_0 _ _ _) | (with_reducible exact heap_2_1 _ _ _) | (with_reducible exact heap_3_0 _ _ _ _) | (with_reducible exact heap_3_1 _ _ _ _) | (with_reducible exact heap_3_2 _ _ _ _) | (with_reducible exact heap_4_0 _ _ _ _ _) | (with_reducible exact heap_4_1 _ _ _ _ _) | (with_reducible exact heap_4_2 _ _ _ _ _) | (with_reducible exact heap_4_3 _ _ _ _ _) | (with_reducible exact heap_5_0 _ _ _ _ _ _) | (with_reducible exact heap_5_1 _ _ _ _ _ _) | (with_reducible exact heap_5_2 _ _ _ _ _ _) | (with_reducible exact heap_5_3 _ _ _ _ _ _) | (with_reducible exact heap_5_4 _ _ _ _ _ _) | (with_reducible exact heap_6_0 _ _ _ _ _ _ _) | (with_reducible exact heap_6_1 _ _ _ _ _ _ _) | (with_reducible exact heap_6_2 _ _ _ _ _ _ _) | (with_reducible exact heap_6_3 _ _ _ _ _ _ _) | (with_reducible exact heap_6_4 _ _ _ _ _ _ _) | (with_reducible exact heap_6_5 _ _ _ _ _ _ _) | simp only [heap_alloc_past, heap_alloc_at, World.size_alloc, Nat.add_assoc, Nat.reduceAdd, Nat.lt_add_right_iff_pos, Nat.add_lt_add_iff_left, Nat.reduceLT, Nat.zero_lt_succ, Nat.lt_add_one])) | ((with_reducible refine wpList_load_rowAs rfl 108 _ rfl ((w.heap.size + 2)) ?_ 108 (cells2 o) (0, 0) _ 2 ?_ Tryz.underlying108 rfl twoInfo rfl ?_); exact rfl; exact (by first | (with_reducible exact heap_1_0 _ _) | (with_reducible exact heap_2_0 _ _ _) | (with_reducible exact heap_2_1 _ _ _) | (with_reducible exact heap_3_0 _ _ _ _) | (with_reducible exact heap_3_1 _ _ _ _) | (with_reducible exact heap_3_2 _ _ _ _) | (with_reducible exact heap_4_0 _ _ _ _ _) | (with_reducible exact heap_4_1 _ _ _ _ _) | (with_reducible exact heap_4_2 _ _ _ _ _) | (with_reducible exact heap_4_3 _ _ _ _ _) | (with_reducible exact heap_5_0 _ _ _ _ _ _) | (with_reducible exact heap_5_1 _ _ _ _ _ _) | (with_reducible exact heap_5_2 _ _ _ _ _ _) | (with_reducible exact heap_5_3 _ _ _ _ _ _) | (with_reducible exact heap_5_4 _ _ _ _ _ _) | (with_reducible exact heap_6_0 _ _ _ _ _ _ _) | (with_reducible exact heap_6_1 _ _ _ _ _ _ _) | (with_reducible exact heap_6_2 _ _ _ _ _ _ _) | (with_reducible exact heap_6_3 _ _ _ _ _ _ _) | (with_reducible exact heap_6_4 _ _ _ _ _ _ _) | (with_reducible exact heap_6_5 _ _ _ _ _ _ _) | simp only [heap_alloc_past, heap_alloc_at, World.size_alloc, Nat.add_assoc, Nat.reduceAdd, Nat.lt_add_right_iff_pos, Nat.add_lt_add_iff_left, Nat.reduceLT, Nat.zero_lt_succ, Nat.lt_add_one])))
  (with_reducible refine (HADD.out _).mono ?_)
  rintro e w1 ⟨rfl, hb1⟩
  have k1 : w1.heap[w.heap.size]? = some (.cells (cells2 a) 108 (0, 0)) := by rw [hb1.block _ (by simp; omega)]; exact (by first | (with_reducible exact heap_1_0 _ _) | (with_reducible exact heap_2_0 _ _ _) | (with_reducible exact heap_2_1 _ _ _) | (with_reducible exact heap_3_0 _ _ _ _) | (with_reducible exact heap_3_1 _ _ _ _) | (with_reducible exact heap_3_2 _ _ _ _) | (with_reducible exact heap_4_0 _ _ _ _ _) | (with_reducible exact heap_4_1 _ _ _ _ _) | (with_reducible exact heap_4_2 _ _ _ _ _) | (with_reducible exact heap_4_3 _ _ _ _ _) | (with_reducible exact heap_5_0 _ _ _ _ _ _) | (with_reducible exact heap_5_1 _ _ _ _ _ _) | (with_reducible exact heap_5_2 _ _ _ _ _ _) | (with_reducible exact heap_5_3 _ _ _ _ _ _) | (with_reducible exact heap_5_4 _ _ _ _ _ _) | (with_reducible exact heap_6_0 _ _ _ _ _ _ _) | (with_reducible exact heap_6_1 _ _ _ _ _ _ _) | (with_reducible exact heap_6_2 _ _ _ _ _ _ _) | (with_reducible exact heap_6_3 _ _ _ _ _ _ _) | (with_reducible exact heap_6_4 _ _ _ _ _ _ _) | (with_reducible exact heap_6_5 _ _ _ _ _ _ _) | simp only [heap_alloc_past, heap_alloc_at, World.size_alloc, Nat.add_assoc, Nat.reduceAdd, Nat.lt_add_right_iff_pos, Nat.add_lt_add_iff_left, Nat.reduceLT, Nat.zero_lt_succ, Nat.lt_add_one])
  have HB := Lib.hid (K0.out.trans (hb1.mono (by simp; omega)))
  have hlt : w.heap.size < w1.heap.size := lt_of_heap k1
  have K1 := Lib.hid k1
  clear hb1 k1 K0
  go_wp2_with (first | ((with_reducible refine wpList_alloc_as rfl _ rfl _ (twoZero _) ?_); (try simp only)) | ((with_reducible refine wpList_store_rowAs rfl 108 _ _ rfl (w1.heap.size) (cells2 s) ?_ ?_ 108 (cells2 0) 2 ?_ twoInfo rfl rfl (cells2_one _) ?_); exact rfl; exact rfl; exact (heap_alloc_at _ _ _ rfl); (first | rw [row_1_0] | rw [row_2_0] | rw [row_2_1] | rw [row_3_0] | rw [row_3_1] | rw [row_3_2] | rw [row_4_0] | rw [row_4_1] | rw [row_4_2] | rw [row_4_3] | rw [row_5_0] | rw [row_5_1] | rw [row_5_2] | rw [row_5_3] | rw [row_5_4] | rw [row_6_0] | rw [row_6_1] | rw [row_6_2] | rw [row_6_3] | rw [row_6_4] | rw [row_6_5] | simp only [setRow_alloc_past, setRow_alloc_at, World.size_alloc, Nat.add_assoc, Nat.reduceAdd, Nat.lt_add_right_iff_pos, Nat.add_lt_add_iff_left, Nat.reduceLT, Nat.zero_lt_succ, Nat.lt_add_one])) | ((with_reducible refine wpList_load_rowAs rfl 108 _ rfl (w.heap.size) ?_ 108 (cells2 a) (0, 0) _ 2 ?_ Tryz.underlying108 rfl twoInfo rfl ?_); exact rfl; exact (by rw [heap_alloc_past _ _ _ hlt]; exact K1.out)) | ((with_reducible refine wpList_load_rowAs rfl 108 _ rfl (w1.heap.size) ?_ 108 (cells2 s) (0, 0) _ 2 ?_ Tryz.underlying108 rfl twoInfo rfl ?_); exact rfl; exact (heap_alloc_at _ _ _ rfl)))
  (with_reducible refine (HCMP.out _).mono ?_)
  rintro e w2 ⟨rfl, hb2⟩
  have HB2 := Lib.hid ((HB.out.alloc HB.out.size _).trans (hb2.mono (HB.out.alloc HB.out.size _).size))
  clear hb2
  go_wp2
  go_ret
  exact ⟨ret_bool HV.out, HB2.out⟩

/-- Whether a load is near what so many hold. -/
def Pol.Close (p : Pol) (load now : Int) : Prop := 1 ≤ now ∧ now ≤ 1073741824 ∧ 1000 * max load 0 ≤ 1000 * now * p.tg + p.tl * now * p.tg ∧ 1000 * now * p.tg ≤ 1000 * max load 0 + p.tl * now * p.tg
instance (p : Pol) (load now : Int) : Decidable (p.Close load now) := by unfold Pol.Close; infer_instance
def Pol.near (p : Pol) (load now : Int) : Bool := p.ok && decide (p.Close load now)

theorem Pol.near_out {p : Pol} {load now : Int} (h : p.ok = false ∨ now < 1 ∨ 1073741824 < now) : p.near load now = false := by
  unfold Pol.near
  rcases h with h | h | h
  · rw [h]; rfl
  · rw [show decide (p.Close load now) = false from decide_eq_false (by unfold Pol.Close; omega)]; simp
  · rw [show decide (p.Close load now) = false from decide_eq_false (by unfold Pol.Close; omega)]; simp
theorem Pol.near_in {p : Pol} {load now : Int} (h : p.ok = true) (h1 : 1 ≤ now) (h2 : now ≤ 1073741824) {X Y Z : Nat} (hX : (X : Int) = 1000 * max load 0) (hY : (Y : Int) = 1000 * now * p.tg) (hZ : (Z : Int) = p.tl * now * p.tg) :
    p.near load now = (decide (X ≤ Y + Z) && decide (Y ≤ X + Z)) := by
  unfold Pol.near
  rw [h, Bool.true_and, ← Bool.decide_and]
  apply decide_eq_decide.2
  unfold Pol.Close
  rw [← hX, ← hY, ← hZ]
  omega

set_option maxRecDepth 100000 in
theorem control_near_out (p : Pol) (load now : Int) (w : World) (h : p.ok = false ∨ now < 1 ∨ 1073741824 < now) :
    Calls Tryz.prog 80 #[.agg #[.int .i64 p.mn, .int .i64 p.mx, .int .i64 p.tg, .int .i64 p.tl, .int .i64 p.wi, .int .i64 p.ho], .int .i64 load, .int .i64 now] w fun e w' => e = .returned (.bool false) ∧ Below w.heap.size w w' := by
  have hr := control_right p
  cases ho : p.ok with
  | false =>
    rw [ho] at hr
    have HR := Lib.hid hr
    clear hr h ho
    go_enter Tryz.func80, Tryz.ntmps80
    go_wp2_with fail
    (with_reducible refine (HR.out _).mono ?_)
    rintro e w1 ⟨rfl, hb1⟩
    have HB := Lib.hid ((below1 w _).trans (hb1.mono (by simp)))
    clear hb1
    go_wp2
    go_ret
    exact ⟨rfl, HB.out⟩
  | true =>
    rw [ho] at hr
    have h' : now < 1 ∨ 1073741824 < now := by rcases h with h | h; (rw [ho] at h; cases h); exact h
    have HR := Lib.hid hr
    clear hr h ho
    go_enter Tryz.func80, Tryz.ntmps80
    go_wp2_with fail
    (with_reducible refine (HR.out _).mono ?_)
    rintro e w1 ⟨rfl, hb1⟩
    have HB := Lib.hid ((below1 w _).trans (hb1.mono (by simp)))
    clear hb1
    by_cases h1 : now < 1
    · clear h'
      go_wp2
      go_ret
      exact ⟨rfl, HB.out⟩
    · have h2 : 1073741824 < now := by omega
      clear h'
      go_wp2
      go_ret
      exact ⟨rfl, HB.out⟩

theorem Pol.off_bounds (T L n : Nat) (hT : T ≤ 9223372036854775807) (hL : L ≤ 999) (hn : n ≤ 1073741824) : L * n ≤ 1072668082176 ∧ 1000 * n * T < 9903520314283042199192993792000 ∧ L * n * T < 9903520314283042199192993792000 := by
  have h1 : L * n ≤ 999 * 1073741824 := Nat.mul_le_mul hL hn
  have h2 : 1000 * n * T ≤ (1000 * 1073741824) * 9223372036854775807 := Nat.mul_le_mul (by omega) hT
  have h3 : L * n * T ≤ (999 * 1073741824) * 9223372036854775807 := Nat.mul_le_mul h1 hT
  omega

theorem two_equal_yes (x : Nat) (w : World) : (Op.equalIn 10000 108 (.agg (cells2 x)) (.agg (cells2 x))).run Tryz.prog w = .ok true w := by
  unfold cells2
  simp [go_sem]
theorem pair_equal_no (a b c d : Nat) (h : a ≠ c ∨ b ≠ d) (w : World) : (Op.equalIn 10000 108 (.agg #[.int .u64 a, .int .u64 b]) (.agg #[.int .u64 c, .int .u64 d])).run Tryz.prog w = .ok false w := by
  by_cases h1 : a = c
  · have h2 : ¬ b = d := by omega
    subst h1
    simp [go_sem]
    omega
  · simp [go_sem]
    intro h
    omega
theorem two_equal_no (x y : Nat) (h : x ≠ y) (w : World) : (Op.equalIn 10000 108 (.agg (cells2 x)) (.agg (cells2 y))).run Tryz.prog w = .ok false w :=
  pair_equal_no _ _ _ _ (by omega) w

set_option maxHeartbeats 1000000 in
set_option maxRecDepth 100000 in
theorem control_near_in (mn mx wi ho : Int) (T L n m : Nat) (hT2 : T ≤ 9223372036854775807) (hL2 : L ≤ 999) (load : Int) (hm : max load 0 = m) (hm2 : m ≤ 9223372036854775807) (h1 : 1 ≤ n) (h2 : n ≤ 1073741824) (h : (Pol.mk mn mx T L wi ho).ok = true) (w : World) :
    Calls Tryz.prog 80 #[.agg #[.int .i64 mn, .int .i64 mx, .int .i64 T, .int .i64 L, .int .i64 wi, .int .i64 ho], .int .i64 load, .int .i64 n] w fun e w' => e = .returned (.bool (decide (1000 * m ≤ 1000 * n * T + L * n * T) && decide (1000 * n * T ≤ 1000 * m + L * n * T))) ∧ Below w.heap.size w w' := by
  have hr : ∀ w, Calls Tryz.prog 83 #[.agg #[.int .i64 mn, .int .i64 mx, .int .i64 T, .int .i64 L, .int .i64 wi, .int .i64 ho]] w fun e w' => e = .returned (.bool true) ∧ Below w.heap.size w w' := by
    have := control_right (Pol.mk mn mx T L wi ho)
    rw [h] at this
    exact this
  obtain ⟨b1, b2, b3⟩ := Pol.off_bounds T L n hT2 hL2 h2
  have m1 : ∀ w, Calls Tryz.prog 64 #[.int .u64 1000, .int .u64 m] w fun e w' => e = .returned (.agg (cells2 (1000 * m))) ∧ Below w.heap.size w w' := wide_mul 1000 m (by omega) (by omega)
  have m2 : ∀ w, Calls Tryz.prog 64 #[.int .u64 (1000 * (n : Int)), .int .u64 T] w fun e w' => e = .returned (.agg (cells2 (1000 * n * T))) ∧ Below w.heap.size w w' := by
    rw [show (1000 * (n : Int)) = ((1000 * n : Nat) : Int) by omega]; exact wide_mul (1000 * n) T (by omega) (by omega)
  obtain ⟨o, eo⟩ : ∃ o, o = L * n := ⟨_, rfl⟩
  have eoi : (L : Int) * (n : Int) = o := by rw [eo]; simp
  rw [← eo] at b1 b3 ⊢
  have m3 : ∀ w, Calls Tryz.prog 64 #[.int .u64 o, .int .u64 T] w fun e w' => e = .returned (.agg (cells2 (o * T))) ∧ Below w.heap.size w w' := wide_mul o T (by omega) (by omega)
  have w1 : ∀ w, Calls Tryz.prog 100 #[.agg (cells2 (1000 * m)), .agg (cells2 (1000 * n * T)), .agg (cells2 (o * T))] w fun e w' => e = .returned (.bool (decide (1000 * m ≤ 1000 * n * T + o * T))) ∧ Below w.heap.size w w' := control_within (1000 * m) (1000 * n * T) (o * T) (by omega) (by omega) (by omega) (by omega)
  have w2 : ∀ w, Calls Tryz.prog 100 #[.agg (cells2 (1000 * n * T)), .agg (cells2 (1000 * m)), .agg (cells2 (o * T))] w fun e w' => e = .returned (.bool (decide (1000 * n * T ≤ 1000 * m + o * T))) ∧ Below w.heap.size w w' := control_within (1000 * n * T) (1000 * m) (o * T) (by omega) (by omega) (by omega) (by omega)
  obtain ⟨Y, eY⟩ : ∃ o, o = 1000 * n * T := ⟨_, rfl⟩
  obtain ⟨Z, eZ⟩ : ∃ Z, Z = o * T := ⟨_, rfl⟩
  rw [← eY] at m2 w1 w2 ⊢
  rw [← eZ] at m3 w1 w2 ⊢
  have HR := Lib.hid hr
  have M2 := Lib.hid m2
  have EO := Lib.hid eoi
  clear hr m2 eo h b2 b3 eY eZ
  obtain ⟨X, eX⟩ : ∃ o, o = 1000 * m := ⟨_, rfl⟩
  rw [← eX] at m1 w1 w2 ⊢
  have M3 := Lib.hid m3
  have W1 := Lib.hid w1
  have W2 := Lib.hid w2
  clear m3 w1 w2
  by_cases hl : 0 ≤ load
  · obtain rfl : load = m := by omega
    have M1 := Lib.hid m1
    clear m1 eX hm
    go_enter Tryz.func80, Tryz.ntmps80
    go_wp2_with fail
    (with_reducible refine (HR.out _).mono ?_)
    rintro e w1 ⟨rfl, hb1⟩
    have k0 := (below1 w (.cells #[.int .i64 mn, .int .i64 mx, .int .i64 T, .int .i64 L, .int .i64 wi, .int .i64 ho] 23)).trans (hb1.mono (by simp))
    have k1 : w1.heap[w.heap.size]? = some (.cells #[.int .i64 mn, .int .i64 mx, .int .i64 T, .int .i64 L, .int .i64 wi, .int .i64 ho] 23 (0, 0)) := by rw [hb1.block _ (by simp)]; exact (by first | (with_reducible exact heap_1_0 _ _) | (with_reducible exact heap_2_0 _ _ _) | (with_reducible exact heap_2_1 _ _ _) | (with_reducible exact heap_3_0 _ _ _ _) | (with_reducible exact heap_3_1 _ _ _ _) | (with_reducible exact heap_3_2 _ _ _ _) | (with_reducible exact heap_4_0 _ _ _ _ _) | (with_reducible exact heap_4_1 _ _ _ _ _) | (with_reducible exact heap_4_2 _ _ _ _ _) | (with_reducible exact heap_4_3 _ _ _ _ _) | (with_reducible exact heap_5_0 _ _ _ _ _ _) | (with_reducible exact heap_5_1 _ _ _ _ _ _) | (with_reducible exact heap_5_2 _ _ _ _ _ _) | (with_reducible exact heap_5_3 _ _ _ _ _ _) | (with_reducible exact heap_5_4 _ _ _ _ _ _) | (with_reducible exact heap_6_0 _ _ _ _ _ _ _) | (with_reducible exact heap_6_1 _ _ _ _ _ _ _) | (with_reducible exact heap_6_2 _ _ _ _ _ _ _) | (with_reducible exact heap_6_3 _ _ _ _ _ _ _) | (with_reducible exact heap_6_4 _ _ _ _ _ _ _) | (with_reducible exact heap_6_5 _ _ _ _ _ _ _) | simp only [heap_alloc_past, heap_alloc_at, World.size_alloc, Nat.add_assoc, Nat.reduceAdd, Nat.lt_add_right_iff_pos, Nat.add_lt_add_iff_left, Nat.reduceLT, Nat.zero_lt_succ, Nat.lt_add_one])
    clear hb1
    have K0 := Lib.hid k0
    have K1 := Lib.hid k1
    clear k0 k1
    go_wp2_with fail
    (with_reducible refine (M1.out _).mono ?_)
    rintro e w2 ⟨rfl, hb2⟩
    have k0 := K0.out.trans (hb2.mono K0.out.size)
    have k1 := (hb2.block _ (lt_of_heap K1.out)).trans K1.out
    have lt1 : w.heap.size < w2.heap.size := lt_of_heap k1
    have c2 : w2.cell? ⟨w.heap.size, 2, none⟩ = some (.int .i64 T) := by rw [cell_of_row _ _ _ _ _ _ k1]; rfl
    clear hb2 K0 K1
    have K0 := Lib.hid k0
    have K1 := Lib.hid k1
    clear k0 k1
    go_wp2_with (first | ((with_reducible refine wpList_alloc_as rfl _ rfl _ (twoZero _) ?_); (try simp only)) | ((with_reducible refine wpList_store_rowAs rfl 108 _ _ rfl (w2.heap.size) (cells2 X) ?_ ?_ 108 (cells2 0) 2 ?_ twoInfo rfl rfl (cells2_one _) ?_); exact rfl; exact rfl; exact (heap_alloc_at _ _ _ rfl); (first | rw [row_1_0] | rw [row_2_0] | rw [row_2_1] | rw [row_3_0] | rw [row_3_1] | rw [row_3_2] | rw [row_4_0] | rw [row_4_1] | rw [row_4_2] | rw [row_4_3] | rw [row_5_0] | rw [row_5_1] | rw [row_5_2] | rw [row_5_3] | rw [row_5_4] | rw [row_6_0] | rw [row_6_1] | rw [row_6_2] | rw [row_6_3] | rw [row_6_4] | rw [row_6_5] | simp only [setRow_alloc_past, setRow_alloc_at, World.size_alloc, Nat.add_assoc, Nat.reduceAdd, Nat.lt_add_right_iff_pos, Nat.add_lt_add_iff_left, Nat.reduceLT, Nat.zero_lt_succ, Nat.lt_add_one])))
    (with_reducible refine (M2.out _).mono ?_)
    rintro e w3 ⟨rfl, hb3⟩
    have k0 := (K0.out.alloc K0.out.size (.cells (cells2 X) 108)).trans (hb3.mono (K0.out.alloc K0.out.size _).size)
    have k1 : w3.heap[w.heap.size]? = some (.cells #[.int .i64 mn, .int .i64 mx, .int .i64 T, .int .i64 L, .int .i64 wi, .int .i64 ho] 23 (0, 0)) := by rw [hb3.block _ (by simp; omega), heap_alloc_past _ _ _ lt1]; exact K1.out
    have k2 : w3.heap[w2.heap.size]? = some (.cells (cells2 X) 108 (0, 0)) := by rw [hb3.block _ (by simp)]; exact heap_alloc_at _ _ _ rfl
    have lt2 : w2.heap.size < w3.heap.size := lt_of_heap k2
    have lt3 : w.heap.size < w3.heap.size := by omega
    clear hb3 K0 K1 c2
    have K0 := Lib.hid k0
    have K1 := Lib.hid k1
    have K2 := Lib.hid k2
    have c2 : (w3.alloc (.cells (cells2 Y) 108)).cell? ⟨w.heap.size, 2, none⟩ = some (.int .i64 T) := by rw [cell_of_row _ _ _ _ _ _ ((heap_alloc_past _ _ _ lt3).trans k1)]; rfl
    have c3 : (w3.alloc (.cells (cells2 Y) 108)).cell? ⟨w.heap.size, 3, none⟩ = some (.int .i64 L) := by rw [cell_of_row _ _ _ _ _ _ ((heap_alloc_past _ _ _ lt3).trans k1)]; rfl
    clear k0 k1 k2
    by_cases hxy : X = Y
    · obtain rfl := hxy
      have HE : Hid ((decide (X ≤ X + Z) && decide (X ≤ X + Z)) = true) := by show _ = true; simp
      go_wp2_with (first | ((with_reducible refine wpList_alloc_as rfl _ rfl _ (twoZero _) ?_); (try simp only)) | ((with_reducible refine wpList_store_rowAs rfl 108 _ _ rfl (w3.heap.size) (cells2 X) ?_ ?_ 108 (cells2 0) 2 ?_ twoInfo rfl rfl (cells2_one _) ?_); exact rfl; exact rfl; exact (heap_alloc_at _ _ _ rfl); (first | rw [row_1_0] | rw [row_2_0] | rw [row_2_1] | rw [row_3_0] | rw [row_3_1] | rw [row_3_2] | rw [row_4_0] | rw [row_4_1] | rw [row_4_2] | rw [row_4_3] | rw [row_5_0] | rw [row_5_1] | rw [row_5_2] | rw [row_5_3] | rw [row_5_4] | rw [row_6_0] | rw [row_6_1] | rw [row_6_2] | rw [row_6_3] | rw [row_6_4] | rw [row_6_5] | simp only [setRow_alloc_past, setRow_alloc_at, World.size_alloc, Nat.add_assoc, Nat.reduceAdd, Nat.lt_add_right_iff_pos, Nat.add_lt_add_iff_left, Nat.reduceLT, Nat.zero_lt_succ, Nat.lt_add_one])) | ((with_reducible refine wpList_load_rowAs rfl 108 _ rfl (w2.heap.size) ?_ 108 (cells2 X) (0, 0) _ 2 ?_ Tryz.underlying108 rfl twoInfo rfl ?_); exact rfl; exact (by rw [heap_alloc_past _ _ _ lt2]; exact K2.out)) | ((with_reducible refine wpList_load_rowAs rfl 108 _ rfl (w3.heap.size) ?_ 108 (cells2 X) (0, 0) _ 2 ?_ Tryz.underlying108 rfl twoInfo rfl ?_); exact rfl; exact (heap_alloc_at _ _ _ rfl)) | ((with_reducible refine wpList_eql_agg rfl 108 108 _ _ rfl (cells2 X) (cells2 X) ?_ ?_ true (by kernel_rfl) (two_equal_yes _ _) ?_); exact rfl; exact rfl))
      go_ret
      exact ⟨ret_bool HE.out.symm, K0.out.alloc K0.out.size _⟩
    · have eoi := EO.out
      go_wp2_with (first | ((with_reducible refine wpList_alloc_as rfl _ rfl _ (twoZero _) ?_); (try simp only)) | ((with_reducible refine wpList_store_rowAs rfl 108 _ _ rfl (w3.heap.size) (cells2 Y) ?_ ?_ 108 (cells2 0) 2 ?_ twoInfo rfl rfl (cells2_one _) ?_); exact rfl; exact rfl; exact (heap_alloc_at _ _ _ rfl); (first | rw [row_1_0] | rw [row_2_0] | rw [row_2_1] | rw [row_3_0] | rw [row_3_1] | rw [row_3_2] | rw [row_4_0] | rw [row_4_1] | rw [row_4_2] | rw [row_4_3] | rw [row_5_0] | rw [row_5_1] | rw [row_5_2] | rw [row_5_3] | rw [row_5_4] | rw [row_6_0] | rw [row_6_1] | rw [row_6_2] | rw [row_6_3] | rw [row_6_4] | rw [row_6_5] | simp only [setRow_alloc_past, setRow_alloc_at, World.size_alloc, Nat.add_assoc, Nat.reduceAdd, Nat.lt_add_right_iff_pos, Nat.add_lt_add_iff_left, Nat.reduceLT, Nat.zero_lt_succ, Nat.lt_add_one])) | ((with_reducible refine wpList_load_rowAs rfl 108 _ rfl (w2.heap.size) ?_ 108 (cells2 X) (0, 0) _ 2 ?_ Tryz.underlying108 rfl twoInfo rfl ?_); exact rfl; exact (by rw [heap_alloc_past _ _ _ lt2]; exact K2.out)) | ((with_reducible refine wpList_load_rowAs rfl 108 _ rfl (w3.heap.size) ?_ 108 (cells2 Y) (0, 0) _ 2 ?_ Tryz.underlying108 rfl twoInfo rfl ?_); exact rfl; exact (heap_alloc_at _ _ _ rfl)) | ((with_reducible refine wpList_eql_agg rfl 108 108 _ _ rfl (cells2 X) (cells2 Y) ?_ ?_ false (by kernel_rfl) (two_equal_no _ _ hxy _) ?_); exact rfl; exact rfl))
      (with_reducible refine (M3.out _).mono ?_)
      rintro e w4 ⟨rfl, hb4⟩
      have k0 := (K0.out.alloc K0.out.size (.cells (cells2 Y) 108)).trans (hb4.mono (K0.out.alloc K0.out.size _).size)
      have k2 : w4.heap[w2.heap.size]? = some (.cells (cells2 X) 108 (0, 0)) := by rw [hb4.block _ (by simp; omega), heap_alloc_past _ _ _ lt2]; exact K2.out
      have k3 : w4.heap[w3.heap.size]? = some (.cells (cells2 Y) 108 (0, 0)) := by rw [hb4.block _ (by simp)]; exact heap_alloc_at _ _ _ rfl
      have lt4 : w3.heap.size < w4.heap.size := lt_of_heap k3
      have lt5 : w2.heap.size < w4.heap.size := by omega
      clear hb4 K0 K1 K2 c2 c3 eoi
      have K0 := Lib.hid k0
      have K2 := Lib.hid k2
      have K3 := Lib.hid k3
      clear k0 k2 k3
      go_wp2_with (first | ((with_reducible refine wpList_alloc_as rfl _ rfl _ (twoZero _) ?_); (try simp only)) | ((with_reducible refine wpList_store_rowAs rfl 108 _ _ rfl (w4.heap.size) (cells2 Z) ?_ ?_ 108 (cells2 0) 2 ?_ twoInfo rfl rfl (cells2_one _) ?_); exact rfl; exact rfl; exact (heap_alloc_at _ _ _ rfl); (first | rw [row_1_0] | rw [row_2_0] | rw [row_2_1] | rw [row_3_0] | rw [row_3_1] | rw [row_3_2] | rw [row_4_0] | rw [row_4_1] | rw [row_4_2] | rw [row_4_3] | rw [row_5_0] | rw [row_5_1] | rw [row_5_2] | rw [row_5_3] | rw [row_5_4] | rw [row_6_0] | rw [row_6_1] | rw [row_6_2] | rw [row_6_3] | rw [row_6_4] | rw [row_6_5] | simp only [setRow_alloc_past, setRow_alloc_at, World.size_alloc, Nat.add_assoc, Nat.reduceAdd, Nat.lt_add_right_iff_pos, Nat.add_lt_add_iff_left, Nat.reduceLT, Nat.zero_lt_succ, Nat.lt_add_one])) | ((with_reducible refine wpList_load_rowAs rfl 108 _ rfl (w2.heap.size) ?_ 108 (cells2 X) (0, 0) _ 2 ?_ Tryz.underlying108 rfl twoInfo rfl ?_); exact rfl; exact (by rw [heap_alloc_past _ _ _ lt5]; exact K2.out)) | ((with_reducible refine wpList_load_rowAs rfl 108 _ rfl (w3.heap.size) ?_ 108 (cells2 Y) (0, 0) _ 2 ?_ Tryz.underlying108 rfl twoInfo rfl ?_); exact rfl; exact (by rw [heap_alloc_past _ _ _ lt4]; exact K3.out)) | ((with_reducible refine wpList_load_rowAs rfl 108 _ rfl (w4.heap.size) ?_ 108 (cells2 Z) (0, 0) _ 2 ?_ Tryz.underlying108 rfl twoInfo rfl ?_); exact rfl; exact (heap_alloc_at _ _ _ rfl)))
      by_cases q1 : X ≤ Y + Z
      · have g1 := W1.out
        rw [decide_eq_true q1] at g1
        have G1 := Lib.hid g1
        have HE : Hid ((decide (X ≤ Y + Z) && decide (Y ≤ X + Z)) = decide (Y ≤ X + Z)) := by show _ = decide (Y ≤ X + Z); rw [decide_eq_true q1]; rfl
        clear g1 q1
        (with_reducible refine (G1.out _).mono ?_)
        rintro e w5 ⟨rfl, hb5⟩
        have k0 := (K0.out.alloc K0.out.size (.cells (cells2 Z) 108)).trans (hb5.mono (K0.out.alloc K0.out.size _).size)
        have k2 : w5.heap[w2.heap.size]? = some (.cells (cells2 X) 108 (0, 0)) := by rw [hb5.block _ (by simp; omega), heap_alloc_past _ _ _ lt5]; exact K2.out
        have k3 : w5.heap[w3.heap.size]? = some (.cells (cells2 Y) 108 (0, 0)) := by rw [hb5.block _ (by simp; omega), heap_alloc_past _ _ _ lt4]; exact K3.out
        have k4 : w5.heap[w4.heap.size]? = some (.cells (cells2 Z) 108 (0, 0)) := by rw [hb5.block _ (by simp)]; exact heap_alloc_at _ _ _ rfl
        clear hb5 K0 K2 K3
        have K0 := Lib.hid k0
        have K2 := Lib.hid k2
        have K3 := Lib.hid k3
        have K4 := Lib.hid k4
        clear k0 k2 k3 k4
        go_wp2_with (first | ((with_reducible refine wpList_load_rowG ?_ 108 _ rfl (w2.heap.size) ?_ 108 (cells2 X) (0, 0) _ 2 ?_ Tryz.underlying108 rfl twoInfo rfl ?_); kernel_rfl; exact rfl; exact K2.out) | ((with_reducible refine wpList_load_rowG ?_ 108 _ rfl (w3.heap.size) ?_ 108 (cells2 Y) (0, 0) _ 2 ?_ Tryz.underlying108 rfl twoInfo rfl ?_); kernel_rfl; exact rfl; exact K3.out) | ((with_reducible refine wpList_load_rowG ?_ 108 _ rfl (w4.heap.size) ?_ 108 (cells2 Z) (0, 0) _ 2 ?_ Tryz.underlying108 rfl twoInfo rfl ?_); kernel_rfl; exact rfl; exact K4.out))
        (with_reducible refine (W2.out _).mono ?_)
        rintro e w6 ⟨rfl, hb6⟩
        have HB := Lib.hid (K0.out.trans (hb6.mono K0.out.size))
        clear hb6
        go_wp2
        go_ret
        exact ⟨ret_bool HE.out.symm, HB.out⟩
      · have g1 := W1.out
        rw [decide_eq_false q1] at g1
        have G1 := Lib.hid g1
        have HE : Hid ((decide (X ≤ Y + Z) && decide (Y ≤ X + Z)) = false) := by show _ = false; rw [decide_eq_false q1]; rfl
        clear g1 q1
        (with_reducible refine (G1.out _).mono ?_)
        rintro e w5 ⟨rfl, hb5⟩
        have HB := Lib.hid ((K0.out.alloc K0.out.size (.cells (cells2 Z) 108)).trans (hb5.mono (K0.out.alloc K0.out.size _).size))
        clear hb5
        go_wp2
        go_ret
        exact ⟨ret_bool HE.out.symm, HB.out⟩
  · obtain rfl : m = 0 := by omega
    have m1' : ∀ w, Calls Tryz.prog 64 #[.int .u64 1000, .int .u64 0] w fun e w' => e = .returned (.agg (cells2 X)) ∧ Below w.heap.size w w' := m1
    have M1 := Lib.hid m1'
    clear m1 m1' eX hm
    go_enter Tryz.func80, Tryz.ntmps80
    go_wp2_with fail
    (with_reducible refine (HR.out _).mono ?_)
    rintro e w1 ⟨rfl, hb1⟩
    have k0 := (below1 w (.cells #[.int .i64 mn, .int .i64 mx, .int .i64 T, .int .i64 L, .int .i64 wi, .int .i64 ho] 23)).trans (hb1.mono (by simp))
    have k1 : w1.heap[w.heap.size]? = some (.cells #[.int .i64 mn, .int .i64 mx, .int .i64 T, .int .i64 L, .int .i64 wi, .int .i64 ho] 23 (0, 0)) := by rw [hb1.block _ (by simp)]; exact (by first | (with_reducible exact heap_1_0 _ _) | (with_reducible exact heap_2_0 _ _ _) | (with_reducible exact heap_2_1 _ _ _) | (with_reducible exact heap_3_0 _ _ _ _) | (with_reducible exact heap_3_1 _ _ _ _) | (with_reducible exact heap_3_2 _ _ _ _) | (with_reducible exact heap_4_0 _ _ _ _ _) | (with_reducible exact heap_4_1 _ _ _ _ _) | (with_reducible exact heap_4_2 _ _ _ _ _) | (with_reducible exact heap_4_3 _ _ _ _ _) | (with_reducible exact heap_5_0 _ _ _ _ _ _) | (with_reducible exact heap_5_1 _ _ _ _ _ _) | (with_reducible exact heap_5_2 _ _ _ _ _ _) | (with_reducible exact heap_5_3 _ _ _ _ _ _) | (with_reducible exact heap_5_4 _ _ _ _ _ _) | (with_reducible exact heap_6_0 _ _ _ _ _ _ _) | (with_reducible exact heap_6_1 _ _ _ _ _ _ _) | (with_reducible exact heap_6_2 _ _ _ _ _ _ _) | (with_reducible exact heap_6_3 _ _ _ _ _ _ _) | (with_reducible exact heap_6_4 _ _ _ _ _ _ _) | (with_reducible exact heap_6_5 _ _ _ _ _ _ _) | simp only [heap_alloc_past, heap_alloc_at, World.size_alloc, Nat.add_assoc, Nat.reduceAdd, Nat.lt_add_right_iff_pos, Nat.add_lt_add_iff_left, Nat.reduceLT, Nat.zero_lt_succ, Nat.lt_add_one])
    clear hb1
    have K0 := Lib.hid k0
    have K1 := Lib.hid k1
    clear k0 k1
    go_wp2_with fail
    (with_reducible refine (M1.out _).mono ?_)
    rintro e w2 ⟨rfl, hb2⟩
    have k0 := K0.out.trans (hb2.mono K0.out.size)
    have k1 := (hb2.block _ (lt_of_heap K1.out)).trans K1.out
    have lt1 : w.heap.size < w2.heap.size := lt_of_heap k1
    have c2 : w2.cell? ⟨w.heap.size, 2, none⟩ = some (.int .i64 T) := by rw [cell_of_row _ _ _ _ _ _ k1]; rfl
    clear hb2 K0 K1
    have K0 := Lib.hid k0
    have K1 := Lib.hid k1
    clear k0 k1
    go_wp2_with (first | ((with_reducible refine wpList_alloc_as rfl _ rfl _ (twoZero _) ?_); (try simp only)) | ((with_reducible refine wpList_store_rowAs rfl 108 _ _ rfl (w2.heap.size) (cells2 X) ?_ ?_ 108 (cells2 0) 2 ?_ twoInfo rfl rfl (cells2_one _) ?_); exact rfl; exact rfl; exact (heap_alloc_at _ _ _ rfl); (first | rw [row_1_0] | rw [row_2_0] | rw [row_2_1] | rw [row_3_0] | rw [row_3_1] | rw [row_3_2] | rw [row_4_0] | rw [row_4_1] | rw [row_4_2] | rw [row_4_3] | rw [row_5_0] | rw [row_5_1] | rw [row_5_2] | rw [row_5_3] | rw [row_5_4] | rw [row_6_0] | rw [row_6_1] | rw [row_6_2] | rw [row_6_3] | rw [row_6_4] | rw [row_6_5] | simp only [setRow_alloc_past, setRow_alloc_at, World.size_alloc, Nat.add_assoc, Nat.reduceAdd, Nat.lt_add_right_iff_pos, Nat.add_lt_add_iff_left, Nat.reduceLT, Nat.zero_lt_succ, Nat.lt_add_one])))
    (with_reducible refine (M2.out _).mono ?_)
    rintro e w3 ⟨rfl, hb3⟩
    have k0 := (K0.out.alloc K0.out.size (.cells (cells2 X) 108)).trans (hb3.mono (K0.out.alloc K0.out.size _).size)
    have k1 : w3.heap[w.heap.size]? = some (.cells #[.int .i64 mn, .int .i64 mx, .int .i64 T, .int .i64 L, .int .i64 wi, .int .i64 ho] 23 (0, 0)) := by rw [hb3.block _ (by simp; omega), heap_alloc_past _ _ _ lt1]; exact K1.out
    have k2 : w3.heap[w2.heap.size]? = some (.cells (cells2 X) 108 (0, 0)) := by rw [hb3.block _ (by simp)]; exact heap_alloc_at _ _ _ rfl
    have lt2 : w2.heap.size < w3.heap.size := lt_of_heap k2
    have lt3 : w.heap.size < w3.heap.size := by omega
    clear hb3 K0 K1 c2
    have K0 := Lib.hid k0
    have K1 := Lib.hid k1
    have K2 := Lib.hid k2
    have c2 : (w3.alloc (.cells (cells2 Y) 108)).cell? ⟨w.heap.size, 2, none⟩ = some (.int .i64 T) := by rw [cell_of_row _ _ _ _ _ _ ((heap_alloc_past _ _ _ lt3).trans k1)]; rfl
    have c3 : (w3.alloc (.cells (cells2 Y) 108)).cell? ⟨w.heap.size, 3, none⟩ = some (.int .i64 L) := by rw [cell_of_row _ _ _ _ _ _ ((heap_alloc_past _ _ _ lt3).trans k1)]; rfl
    clear k0 k1 k2
    by_cases hxy : X = Y
    · obtain rfl := hxy
      have HE : Hid ((decide (X ≤ X + Z) && decide (X ≤ X + Z)) = true) := by show _ = true; simp
      go_wp2_with (first | ((with_reducible refine wpList_alloc_as rfl _ rfl _ (twoZero _) ?_); (try simp only)) | ((with_reducible refine wpList_store_rowAs rfl 108 _ _ rfl (w3.heap.size) (cells2 X) ?_ ?_ 108 (cells2 0) 2 ?_ twoInfo rfl rfl (cells2_one _) ?_); exact rfl; exact rfl; exact (heap_alloc_at _ _ _ rfl); (first | rw [row_1_0] | rw [row_2_0] | rw [row_2_1] | rw [row_3_0] | rw [row_3_1] | rw [row_3_2] | rw [row_4_0] | rw [row_4_1] | rw [row_4_2] | rw [row_4_3] | rw [row_5_0] | rw [row_5_1] | rw [row_5_2] | rw [row_5_3] | rw [row_5_4] | rw [row_6_0] | rw [row_6_1] | rw [row_6_2] | rw [row_6_3] | rw [row_6_4] | rw [row_6_5] | simp only [setRow_alloc_past, setRow_alloc_at, World.size_alloc, Nat.add_assoc, Nat.reduceAdd, Nat.lt_add_right_iff_pos, Nat.add_lt_add_iff_left, Nat.reduceLT, Nat.zero_lt_succ, Nat.lt_add_one])) | ((with_reducible refine wpList_load_rowAs rfl 108 _ rfl (w2.heap.size) ?_ 108 (cells2 X) (0, 0) _ 2 ?_ Tryz.underlying108 rfl twoInfo rfl ?_); exact rfl; exact (by rw [heap_alloc_past _ _ _ lt2]; exact K2.out)) | ((with_reducible refine wpList_load_rowAs rfl 108 _ rfl (w3.heap.size) ?_ 108 (cells2 X) (0, 0) _ 2 ?_ Tryz.underlying108 rfl twoInfo rfl ?_); exact rfl; exact (heap_alloc_at _ _ _ rfl)) | ((with_reducible refine wpList_eql_agg rfl 108 108 _ _ rfl (cells2 X) (cells2 X) ?_ ?_ true (by kernel_rfl) (two_equal_yes _ _) ?_); exact rfl; exact rfl))
      go_ret
      exact ⟨ret_bool HE.out.symm, K0.out.alloc K0.out.size _⟩
    · have eoi := EO.out
      go_wp2_with (first | ((with_reducible refine wpList_alloc_as rfl _ rfl _ (twoZero _) ?_); (try simp only)) | ((with_reducible refine wpList_store_rowAs rfl 108 _ _ rfl (w3.heap.size) (cells2 Y) ?_ ?_ 108 (cells2 0) 2 ?_ twoInfo rfl rfl (cells2_one _) ?_); exact rfl; exact rfl; exact (heap_alloc_at _ _ _ rfl); (first | rw [row_1_0] | rw [row_2_0] | rw [row_2_1] | rw [row_3_0] | rw [row_3_1] | rw [row_3_2] | rw [row_4_0] | rw [row_4_1] | rw [row_4_2] | rw [row_4_3] | rw [row_5_0] | rw [row_5_1] | rw [row_5_2] | rw [row_5_3] | rw [row_5_4] | rw [row_6_0] | rw [row_6_1] | rw [row_6_2] | rw [row_6_3] | rw [row_6_4] | rw [row_6_5] | simp only [setRow_alloc_past, setRow_alloc_at, World.size_alloc, Nat.add_assoc, Nat.reduceAdd, Nat.lt_add_right_iff_pos, Nat.add_lt_add_iff_left, Nat.reduceLT, Nat.zero_lt_succ, Nat.lt_add_one])) | ((with_reducible refine wpList_load_rowAs rfl 108 _ rfl (w2.heap.size) ?_ 108 (cells2 X) (0, 0) _ 2 ?_ Tryz.underlying108 rfl twoInfo rfl ?_); exact rfl; exact (by rw [heap_alloc_past _ _ _ lt2]; exact K2.out)) | ((with_reducible refine wpList_load_rowAs rfl 108 _ rfl (w3.heap.size) ?_ 108 (cells2 Y) (0, 0) _ 2 ?_ Tryz.underlying108 rfl twoInfo rfl ?_); exact rfl; exact (heap_alloc_at _ _ _ rfl)) | ((with_reducible refine wpList_eql_agg rfl 108 108 _ _ rfl (cells2 X) (cells2 Y) ?_ ?_ false (by kernel_rfl) (two_equal_no _ _ hxy _) ?_); exact rfl; exact rfl))
      (with_reducible refine (M3.out _).mono ?_)
      rintro e w4 ⟨rfl, hb4⟩
      have k0 := (K0.out.alloc K0.out.size (.cells (cells2 Y) 108)).trans (hb4.mono (K0.out.alloc K0.out.size _).size)
      have k2 : w4.heap[w2.heap.size]? = some (.cells (cells2 X) 108 (0, 0)) := by rw [hb4.block _ (by simp; omega), heap_alloc_past _ _ _ lt2]; exact K2.out
      have k3 : w4.heap[w3.heap.size]? = some (.cells (cells2 Y) 108 (0, 0)) := by rw [hb4.block _ (by simp)]; exact heap_alloc_at _ _ _ rfl
      have lt4 : w3.heap.size < w4.heap.size := lt_of_heap k3
      have lt5 : w2.heap.size < w4.heap.size := by omega
      clear hb4 K0 K1 K2 c2 c3 eoi
      have K0 := Lib.hid k0
      have K2 := Lib.hid k2
      have K3 := Lib.hid k3
      clear k0 k2 k3
      go_wp2_with (first | ((with_reducible refine wpList_alloc_as rfl _ rfl _ (twoZero _) ?_); (try simp only)) | ((with_reducible refine wpList_store_rowAs rfl 108 _ _ rfl (w4.heap.size) (cells2 Z) ?_ ?_ 108 (cells2 0) 2 ?_ twoInfo rfl rfl (cells2_one _) ?_); exact rfl; exact rfl; exact (heap_alloc_at _ _ _ rfl); (first | rw [row_1_0] | rw [row_2_0] | rw [row_2_1] | rw [row_3_0] | rw [row_3_1] | rw [row_3_2] | rw [row_4_0] | rw [row_4_1] | rw [row_4_2] | rw [row_4_3] | rw [row_5_0] | rw [row_5_1] | rw [row_5_2] | rw [row_5_3] | rw [row_5_4] | rw [row_6_0] | rw [row_6_1] | rw [row_6_2] | rw [row_6_3] | rw [row_6_4] | rw [row_6_5] | simp only [setRow_alloc_past, setRow_alloc_at, World.size_alloc, Nat.add_assoc, Nat.reduceAdd, Nat.lt_add_right_iff_pos, Nat.add_lt_add_iff_left, Nat.reduceLT, Nat.zero_lt_succ, Nat.lt_add_one])) | ((with_reducible refine wpList_load_rowAs rfl 108 _ rfl (w2.heap.size) ?_ 108 (cells2 X) (0, 0) _ 2 ?_ Tryz.underlying108 rfl twoInfo rfl ?_); exact rfl; exact (by rw [heap_alloc_past _ _ _ lt5]; exact K2.out)) | ((with_reducible refine wpList_load_rowAs rfl 108 _ rfl (w3.heap.size) ?_ 108 (cells2 Y) (0, 0) _ 2 ?_ Tryz.underlying108 rfl twoInfo rfl ?_); exact rfl; exact (by rw [heap_alloc_past _ _ _ lt4]; exact K3.out)) | ((with_reducible refine wpList_load_rowAs rfl 108 _ rfl (w4.heap.size) ?_ 108 (cells2 Z) (0, 0) _ 2 ?_ Tryz.underlying108 rfl twoInfo rfl ?_); exact rfl; exact (heap_alloc_at _ _ _ rfl)))
      by_cases q1 : X ≤ Y + Z
      · have g1 := W1.out
        rw [decide_eq_true q1] at g1
        have G1 := Lib.hid g1
        have HE : Hid ((decide (X ≤ Y + Z) && decide (Y ≤ X + Z)) = decide (Y ≤ X + Z)) := by show _ = decide (Y ≤ X + Z); rw [decide_eq_true q1]; rfl
        clear g1 q1
        (with_reducible refine (G1.out _).mono ?_)
        rintro e w5 ⟨rfl, hb5⟩
        have k0 := (K0.out.alloc K0.out.size (.cells (cells2 Z) 108)).trans (hb5.mono (K0.out.alloc K0.out.size _).size)
        have k2 : w5.heap[w2.heap.size]? = some (.cells (cells2 X) 108 (0, 0)) := by rw [hb5.block _ (by simp; omega), heap_alloc_past _ _ _ lt5]; exact K2.out
        have k3 : w5.heap[w3.heap.size]? = some (.cells (cells2 Y) 108 (0, 0)) := by rw [hb5.block _ (by simp; omega), heap_alloc_past _ _ _ lt4]; exact K3.out
        have k4 : w5.heap[w4.heap.size]? = some (.cells (cells2 Z) 108 (0, 0)) := by rw [hb5.block _ (by simp)]; exact heap_alloc_at _ _ _ rfl
        clear hb5 K0 K2 K3
        have K0 := Lib.hid k0
        have K2 := Lib.hid k2
        have K3 := Lib.hid k3
        have K4 := Lib.hid k4
        clear k0 k2 k3 k4
        go_wp2_with (first | ((with_reducible refine wpList_load_rowG ?_ 108 _ rfl (w2.heap.size) ?_ 108 (cells2 X) (0, 0) _ 2 ?_ Tryz.underlying108 rfl twoInfo rfl ?_); kernel_rfl; exact rfl; exact K2.out) | ((with_reducible refine wpList_load_rowG ?_ 108 _ rfl (w3.heap.size) ?_ 108 (cells2 Y) (0, 0) _ 2 ?_ Tryz.underlying108 rfl twoInfo rfl ?_); kernel_rfl; exact rfl; exact K3.out) | ((with_reducible refine wpList_load_rowG ?_ 108 _ rfl (w4.heap.size) ?_ 108 (cells2 Z) (0, 0) _ 2 ?_ Tryz.underlying108 rfl twoInfo rfl ?_); kernel_rfl; exact rfl; exact K4.out))
        (with_reducible refine (W2.out _).mono ?_)
        rintro e w6 ⟨rfl, hb6⟩
        have HB := Lib.hid (K0.out.trans (hb6.mono K0.out.size))
        clear hb6
        go_wp2
        go_ret
        exact ⟨ret_bool HE.out.symm, HB.out⟩
      · have g1 := W1.out
        rw [decide_eq_false q1] at g1
        have G1 := Lib.hid g1
        have HE : Hid ((decide (X ≤ Y + Z) && decide (Y ≤ X + Z)) = false) := by show _ = false; rw [decide_eq_false q1]; rfl
        clear g1 q1
        (with_reducible refine (G1.out _).mono ?_)
        rintro e w5 ⟨rfl, hb5⟩
        have HB := Lib.hid ((K0.out.alloc K0.out.size (.cells (cells2 Z) 108)).trans (hb5.mono (K0.out.alloc K0.out.size _).size))
        clear hb5
        go_wp2
        go_ret
        exact ⟨ret_bool HE.out.symm, HB.out⟩

set_option maxRecDepth 100000 in
theorem control_near (p : Pol) (hp : p.In) (load now : Int) (hl : I64 load) (w : World) :
    Calls Tryz.prog 80 #[.agg #[.int .i64 p.mn, .int .i64 p.mx, .int .i64 p.tg, .int .i64 p.tl, .int .i64 p.wi, .int .i64 p.ho], .int .i64 load, .int .i64 now] w fun e w' => e = .returned (.bool (p.near load now)) ∧ Below w.heap.size w w' := by
  by_cases h : p.ok = false ∨ now < 1 ∨ 1073741824 < now
  · rw [Pol.near_out h]
    exact control_near_out p load now w h
  · have hok : p.ok = true := by simpa using fun e => h (.inl e)
    have h1 : 1 ≤ now := by omega
    have h2 : now ≤ 1073741824 := by omega
    have hf := Pol.fine hok
    obtain ⟨mn, mx, tg, tl, wi, ho⟩ := p
    obtain ⟨_, _, ⟨_, t2⟩, _⟩ := hp
    simp only [Pol.Fine] at hf
    simp only at t2
    obtain ⟨T, rfl⟩ : ∃ T : Nat, tg = T := ⟨tg.toNat, by omega⟩
    obtain ⟨L, rfl⟩ : ∃ T : Nat, tl = T := ⟨tl.toNat, by omega⟩
    obtain ⟨n, rfl⟩ : ∃ T : Nat, now = T := ⟨now.toNat, by omega⟩
    obtain ⟨m, hm⟩ : ∃ m : Nat, max load 0 = m := ⟨(max load 0).toNat, by omega⟩
    rw [Pol.near_in hok h1 h2 (X := 1000 * m) (Y := 1000 * n * T) (Z := L * n * T) (by rw [hm]; simp) (by simp) (by simp)]
    exact control_near_in mn mx wi ho T L n m (by omega) (by omega) load hm (by unfold I64 at hl; omega) (by omega) (by omega) hok w

def Pol.raw (p : Pol) (load now : Int) : Int := if p.near load now = true then p.bound now else p.bound (p.want load)

end Go.Proofs.YtldhbgefpfmkmaaGreat
