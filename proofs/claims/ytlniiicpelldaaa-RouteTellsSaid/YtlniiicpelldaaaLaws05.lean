/- Layer 5: the laws, walked. -/
import Derived.Test.YtlniiicpelldaaaRoute
namespace Go.Proofs.Ytlniiicpelldaaa
open Go.ChangeShapes Go.WideShapes Go.ChangeAt Go.RowKit

set_option maxRecDepth 100000 in
theorem awake05 (w : World) : Calls Try.prog 37 #[] w fun e w' => e = .returned (.bool true) ∧ Below w.heap.size w w' := by
  have h1 := route_bits 8 (by unfold I64; omega)
  rw [show (if 0 ≤ Route.bits 8 then Route.bits 8 else 0) = 3 by decide] at h1
  have h2 := route_right 6 (by unfold I64; omega)
  rw [show decide (0 ≤ Route.bits 6) = false by decide] at h2
  have h3 : ∀ w, Calls Try.prog 39 #[.agg #[.int .u64 9, .int .u64 0], .int .i64 1] w fun e w' => e = .returned (.int .i64 (Route.of 9 0 1)) ∧ Below w.heap.size w w' := route_of 9 0 (by omega) (by omega) 1 (by unfold I64; omega)
  rw [show Route.of 9 0 1 = 0 by unfold Route.of; rw [if_pos (by decide)]; unfold Fnv.folded; rw [if_neg (by decide)]; rfl] at h3
  have H1 := Lib.hid h1
  have H2 := Lib.hid h2
  have H3 := Lib.hid h3
  clear h1 h2 h3
  go_enter Try.func37, Try.ntmps37
  go_wp2_with (first | (with_reducible refine (H1.out _).mono ?_; rintro e w1 ⟨rfl, rfl⟩) | (with_reducible refine (H2.out _).mono ?_; rintro e w1 ⟨rfl, rfl⟩) | (with_reducible refine (H3.out _).mono ?_; rintro e w1 ⟨rfl, hb1⟩))
  go_ret
  exact ⟨rfl, hb1⟩

set_option maxRecDepth 100000 in
theorem routeTells_walk (hi lo : Nat) (h1 : hi < 18446744073709551616) (h2 : lo < 18446744073709551616) (n : Int) (hn : I64 n) (w : World) :
    Calls Try.prog 10 #[.agg #[.int .u64 hi, .int .u64 lo], .int .i64 n] w fun e w' => e = .returned (.bool true) ∧ Below w.heap.size w w' := by
  have hb := Route.bits_le n
  have r1 := ref_bits n hn
  have r2 := route_right n hn
  have r3 := route_bits n hn
  have r4 := route_of hi lo h1 h2 n hn
  have r5 := ref_route_of hi lo h1 h2 n hn
  have hl := Route.of_lt hi lo n
  have hneg : ¬ 0 ≤ Route.bits n → Route.of hi lo n = -1 := fun h => by unfold Route.of; rw [if_neg h]
  obtain ⟨s, es⟩ : ∃ s, s = Route.of hi lo n := ⟨_, rfl⟩
  rw [← es] at r4 r5 hl hneg
  obtain ⟨b, eb⟩ : ∃ s, s = Route.bits n := ⟨_, rfl⟩
  rw [← eb] at r1 r2 r3 hl hneg hb
  clear es eb
  have R1 := Lib.hid r1
  have R4 := Lib.hid r4
  have R5 := Lib.hid r5
  clear r1 r4 r5
  by_cases h : 0 ≤ b
  · have hd : decide (0 ≤ b) = true := by simp [h]
    rw [hd] at r2
    rw [if_pos h] at r3
    obtain ⟨hl1, hl2⟩ := hl h
    have R2 := Lib.hid r2
    have R3 := Lib.hid r3
    clear r2 r3 hneg hl
    go_enter Try.func10, Try.ntmps10
    go_wp2_with fail
    (with_reducible refine (awake05 _).mono ?_)
    rintro e w1 ⟨rfl, hb1⟩
    have k0 := (below1 w (.cells #[.int .u64 hi, .int .u64 lo] 25)).trans (hb1.mono (by simp))
    have k1 : w1.heap[w.heap.size]? = some (.cells #[.int .u64 hi, .int .u64 lo] 25 (0, 0)) := by rw [hb1.block _ (by simp)]; exact (by simp only [heap_alloc_past, heap_alloc_at, World.size_alloc, Nat.add_assoc, Nat.reduceAdd, Nat.lt_add_right_iff_pos, Nat.add_lt_add_iff_left, Nat.reduceLT, Nat.zero_lt_succ, Nat.lt_add_one])
    clear hb1
    have K0 := Lib.hid k0
    have K1 := Lib.hid k1
    clear k0 k1
    go_wp2_with (first | (with_reducible refine (R1.out _).mono ?_; rintro e w1 ⟨rfl, rfl⟩) | ((with_reducible refine wpList_load_rowAs rfl 25 _ rfl (w.heap.size) ?_ 25 #[.int .u64 hi, .int .u64 lo] (0, 0) _ 2 ?_ Try.underlying25 rfl keyInfo ?_ ?_); exact rfl; exact K1.out; exact rfl))
    (with_reducible refine (R4.out _).mono ?_)
    rintro e w2 ⟨rfl, hb2⟩
    have k0 := K0.out.trans (hb2.mono K0.out.size)
    have k1 := (hb2.block _ (lt_of_heap K1.out)).trans K1.out
    have K2 := Lib.hid k0
    have K3 := Lib.hid k1
    have c0 : w2.cell? ⟨w.heap.size, 0, none⟩ = some (.int .u64 hi) := by rw [cell_of_row _ _ _ _ _ _ K3.out]; rfl
    have c1 : w2.cell? ⟨w.heap.size, 1, none⟩ = some (.int .u64 lo) := by rw [cell_of_row _ _ _ _ _ _ K3.out]; rfl
    clear k0 k1 hb2 K0 K1
    go_wp2_with (first | (with_reducible refine (R2.out _).mono ?_; rintro e w3 ⟨rfl, rfl⟩) | (with_reducible refine (R3.out _).mono ?_; rintro e w3 ⟨rfl, rfl⟩))
    (with_reducible refine (R5.out _).mono ?_)
    rintro e w3 ⟨rfl, hb3⟩
    have HW := Lib.hid (K2.out.trans (hb3.mono K2.out.size))
    clear hb3 K2 K3 c0 c1
    go_wp2
    go_ret
    exact ⟨rfl, HW.out⟩
  · have hd : decide (0 ≤ b) = false := by simpa using h
    rw [hd] at r2
    rw [if_neg h] at r3
    have hs := hneg h
    subst hs
    have hbn : b < 0 := by omega
    have R2 := Lib.hid r2
    have R3 := Lib.hid r3
    clear r2 r3 hneg hl
    go_enter Try.func10, Try.ntmps10
    go_wp2_with fail
    (with_reducible refine (awake05 _).mono ?_)
    rintro e w1 ⟨rfl, hb1⟩
    have k0 := (below1 w (.cells #[.int .u64 hi, .int .u64 lo] 25)).trans (hb1.mono (by simp))
    have k1 : w1.heap[w.heap.size]? = some (.cells #[.int .u64 hi, .int .u64 lo] 25 (0, 0)) := by rw [hb1.block _ (by simp)]; exact (by simp only [heap_alloc_past, heap_alloc_at, World.size_alloc, Nat.add_assoc, Nat.reduceAdd, Nat.lt_add_right_iff_pos, Nat.add_lt_add_iff_left, Nat.reduceLT, Nat.zero_lt_succ, Nat.lt_add_one])
    clear hb1
    have K0 := Lib.hid k0
    have K1 := Lib.hid k1
    clear k0 k1
    go_wp2_with (first | (with_reducible refine (R1.out _).mono ?_; rintro e w1 ⟨rfl, rfl⟩) | ((with_reducible refine wpList_load_rowAs rfl 25 _ rfl (w.heap.size) ?_ 25 #[.int .u64 hi, .int .u64 lo] (0, 0) _ 2 ?_ Try.underlying25 rfl keyInfo ?_ ?_); exact rfl; exact K1.out; exact rfl))
    (with_reducible refine (R4.out _).mono ?_)
    rintro e w2 ⟨rfl, hb2⟩
    have k0 := K0.out.trans (hb2.mono K0.out.size)
    have k1 := (hb2.block _ (lt_of_heap K1.out)).trans K1.out
    have K2 := Lib.hid k0
    have K3 := Lib.hid k1
    have c0 : w2.cell? ⟨w.heap.size, 0, none⟩ = some (.int .u64 hi) := by rw [cell_of_row _ _ _ _ _ _ K3.out]; rfl
    have c1 : w2.cell? ⟨w.heap.size, 1, none⟩ = some (.int .u64 lo) := by rw [cell_of_row _ _ _ _ _ _ K3.out]; rfl
    clear k0 k1 hb2 K0 K1
    go_wp2_with (first | (with_reducible refine (R2.out _).mono ?_; rintro e w3 ⟨rfl, rfl⟩) | (with_reducible refine (R3.out _).mono ?_; rintro e w3 ⟨rfl, rfl⟩))
    (with_reducible refine (R5.out _).mono ?_)
    rintro e w3 ⟨rfl, hb3⟩
    have HW := Lib.hid (K2.out.trans (hb3.mono K2.out.size))
    clear hb3 K2 K3 c0 c1
    go_wp2
    go_ret
    exact ⟨rfl, HW.out⟩
end Go.Proofs.Ytlniiicpelldaaa
