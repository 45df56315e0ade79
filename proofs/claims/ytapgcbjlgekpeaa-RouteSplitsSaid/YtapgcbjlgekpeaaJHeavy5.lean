/- Layer 5: the heaviest stripe. -/
import Derived.Test.YtapgcbjlgekpeaaJSplit5
namespace Go.Proofs.Ytapgcbjlgekpeaa
open Go.ChangeShapes Go.WideShapes Go.ChangeAt Go.RowKit

def hv (f : Nat → Nat) : Nat → Nat × Nat
  | 0 => (0, 0)
  | k + 1 => if (hv f k).2 < f k then (k, f k) else hv f k
theorem hv_one (f : Nat → Nat) : hv f 1 = (0, f 0) := by
  show (if (0 : Nat) < f 0 then (0, f 0) else ((0, 0) : Nat × Nat)) = _
  split
  · rfl
  · rw [show f 0 = 0 by omega]
theorem hv_le (f : Nat → Nat) (b : Nat) (h : ∀ j, f j ≤ b) : ∀ k, (hv f k).2 ≤ b ∧ (hv f k).1 ≤ k
  | 0 => ⟨Nat.zero_le _, Nat.le_refl _⟩
  | k + 1 => by
    have ih := hv_le f b h k
    unfold hv
    split
    · exact ⟨h k, Nat.le_succ k⟩
    · exact ⟨ih.1, Nat.le_succ_of_le ih.2⟩
/-- The two captured cells. -/
structure Hv2 (w : World) (H : Nat) (x y : Int) : Prop where
  c0 : w.heap[H]? = some (.cells #[.int .i64 x] 3 (0, 0))
  c1 : w.heap[H + 1]? = some (.cells #[.int .i64 y] 3 (0, 0))
theorem Hv2.below {w w' : World} {H : Nat} {x y : Int} (h : Hv2 w H x y) (hb : Below w.heap.size w w') : Hv2 w' H x y := ⟨(hb.block _ (lt_of_heap h.c0)).trans h.c0, (hb.block _ (lt_of_heap h.c1)).trans h.c1⟩

theorem weigh_no {w : World} {H : Nat} {x y : Int} (h : Hv2 w H x y) (i n : Nat) (hn : ¬ y < n) : Calls Try.prog 94 #[.int .i64 i, .int .i64 n, .pointer (some ⟨H + 1, 0, none⟩), .pointer (some ⟨H, 0, none⟩)] w fun e w' => (∃ v, e = .returned v) ∧ w = w' := by
  have c1 : w.cell? ⟨H + 1, 0, none⟩ = some (.int .i64 y) := by rw [cell_of_row _ _ _ _ _ _ h.c1]; rfl
  clear h
  go_enter Try.func94, Try.ntmps94
  go_wp2
  exact bodyPost_end (results_none rfl _ _ _) rfl ⟨⟨_, rfl⟩, rfl⟩
theorem weigh_yes {w : World} {H : Nat} {x y : Int} (h : Hv2 w H x y) (i n : Nat) (hn : y < n) : Calls Try.prog 94 #[.int .i64 i, .int .i64 n, .pointer (some ⟨H + 1, 0, none⟩), .pointer (some ⟨H, 0, none⟩)] w fun e w' => (∃ v, e = .returned v) ∧ Hv2 w' H i n ∧ Turned (fun k => k = H ∨ k = H + 1) w w' := by
  have c0 : w.cell? ⟨H, 0, none⟩ = some (.int .i64 x) := by rw [cell_of_row _ _ _ _ _ _ h.c0]; rfl
  have f0 : w.frozen? ⟨H, 0, none⟩ = false := frozen_of_row _ _ _ _ _ h.c0
  have c1 : w.cell? ⟨H + 1, 0, none⟩ = some (.int .i64 y) := by rw [cell_of_row _ _ _ _ _ _ h.c1]; rfl
  have f1 : w.frozen? ⟨H + 1, 0, none⟩ = false := frozen_of_row _ _ _ _ _ h.c1
  have HH := Lib.hid h
  clear h
  go_enter Try.func94, Try.ntmps94
  go_wp2
  refine bodyPost_end (results_none rfl _ _ _) rfl ?_
  refine ⟨⟨_, rfl⟩, ⟨?_, ?_⟩, ?_⟩
  · rw [heap_setCell_other _ _ _ _ (by show H ≠ H + 1; omega), heap_setCell_same _ _ _ _ _ _ HH.out.c0]; rfl
  · rw [heap_setCell_same _ _ _ _ _ _ ((heap_setCell_other _ _ _ _ (by show H + 1 ≠ H; omega)).trans HH.out.c1)]; rfl
  · exact (Turned.setCell Turned.refl _ (fun _ => .inl rfl)).setCell _ (fun _ => .inr rfl)

theorem route_split_no (p : Option Addr) (N c : Nat) (n : Int) (hn : I64 n) (hb : ¬ 0 ≤ Route.bits n) (w : World) : Calls Try.prog 26 #[.slice p N c, .int .i64 n] w fun e w' => e = .returned (.slice none 0 0) ∧ w = w' := by
  have R := route_right n hn
  rw [decide_eq_false hb] at R
  have PR := Lib.hid R
  clear R hb hn
  go_enter Try.func26, Try.ntmps26
  go_wp2_with ((with_reducible refine (PR.out _).mono ?_); rintro e w1 ⟨rfl, rfl⟩)
  go_ret
  exact ⟨rfl, rfl⟩
theorem route_heavy_no (p : Option Addr) (N c : Nat) (n : Int) (hn : I64 n) (hb : ¬ 0 ≤ Route.bits n) (w : World) : Calls Try.prog 27 #[.slice p N c, .int .i64 n] w fun e w' => e = .returned (.tuple #[.int .i64 (-1), .int .i64 0]) ∧ w = w' := by
  have R := route_right n hn
  rw [decide_eq_false hb] at R
  have PR := Lib.hid R
  clear R hb hn
  go_enter Try.func27, Try.ntmps27
  go_wp2_with ((with_reducible refine (PR.out _).mono ?_); rintro e w1 ⟨rfl, rfl⟩)
  go_ret2
  exact ⟨rfl, rfl⟩

set_option maxHeartbeats 2000000 in
set_option maxRecDepth 100000 in
theorem route_heavy (p : Option Addr) (N c : Nat) (L : List Ky) (hn : L.length = N) (hIn : ∀ a ∈ L, a.In) (m : Nat) (hb : 0 ≤ Route.bits m) (hm : m ≤ 64) (hN : N ≤ 100000) (w : World) (hs : Kys w p L) :
    Calls Try.prog 27 #[.slice p N c, .int .i64 m] w fun e w' => e = .returned (.tuple #[.int .i64 ((hv (fun j => (Ky.part m j L).length) m).1 : Nat), .int .i64 ((hv (fun j => (Ky.part m j L).length) m).2 : Nat)]) ∧ Below w.heap.size w w' := by
  have R := route_right (m : Int) (by unfold I64; omega)
  rw [decide_eq_true hb] at R
  have PR := Lib.hid R
  have SP := Lib.hid (fun (W : World) (hW : Kys W p L) => route_split p N c L hn hIn m hb hm hN W hW)
  have hfl : ∀ j : Nat, (Ky.part m j L).length ≤ 100000 := fun j => Nat.le_trans (List.length_filter_le _ _) (by omega)
  obtain ⟨f, hf⟩ : ∃ f : Nat → Nat, f = fun j : Nat => (Ky.part m j L).length := ⟨_, rfl⟩
  have HF : Hid (∀ j : Nat, (Ky.part m j L).length = f j) := fun j => by rw [hf]
  have HFL : Hid (∀ j, f j ≤ 100000) := fun j => by rw [hf]; exact hfl j
  rw [← hf]
  have HS := Lib.hid hs
  clear hs hn hIn R hb hfl hf
  go_enter Try.func27, Try.ntmps27
  go_upto_region 4 with (first | ((with_reducible refine (PR.out _).mono ?_); rintro e w1 ⟨rfl, rfl⟩))
  have V0 : Hid (Hv2 ((w.alloc (.cells #[.int .i64 0] 3)).alloc (.cells #[.int .i64 0] 3)) w.heap.size 0 0) := ⟨(by first | (with_reducible exact heap_1_0 _ _) | (with_reducible exact heap_2_0 _ _ _) | (with_reducible exact heap_2_1 _ _ _) | (with_reducible exact heap_3_0 _ _ _ _) | (with_reducible exact heap_3_1 _ _ _ _) | (with_reducible exact heap_3_2 _ _ _ _) | (with_reducible exact heap_4_0 _ _ _ _ _) | (with_reducible exact heap_4_1 _ _ _ _ _) | (with_reducible exact heap_4_2 _ _ _ _ _) | (with_reducible exact heap_4_3 _ _ _ _ _) | (with_reducible exact heap_5_0 _ _ _ _ _ _) | (with_reducible exact heap_5_1 _ _ _ _ _ _) | (with_reducible exact heap_5_2 _ _ _ _ _ _) | (with_reducible exact heap_5_3 _ _ _ _ _ _) | (with_reducible exact heap_5_4 _ _ _ _ _ _) | (with_reducible exact heap_6_0 _ _ _ _ _ _ _) | (with_reducible exact heap_6_1 _ _ _ _ _ _ _) | (with_reducible exact heap_6_2 _ _ _ _ _ _ _) | (with_reducible exact heap_6_3 _ _ _ _ _ _ _) | (with_reducible exact heap_6_4 _ _ _ _ _ _ _) | (with_reducible exact heap_6_5 _ _ _ _ _ _ _) | simp only [heap_alloc_past, heap_alloc_at, World.size_alloc, Nat.add_assoc, Nat.reduceAdd, Nat.lt_add_right_iff_pos, Nat.add_lt_add_iff_left, Nat.reduceLT, Nat.zero_lt_succ, Nat.lt_add_one]), (by first | (with_reducible exact heap_1_0 _ _) | (with_reducible exact heap_2_0 _ _ _) | (with_reducible exact heap_2_1 _ _ _) | (with_reducible exact heap_3_0 _ _ _ _) | (with_reducible exact heap_3_1 _ _ _ _) | (with_reducible exact heap_3_2 _ _ _ _) | (with_reducible exact heap_4_0 _ _ _ _ _) | (with_reducible exact heap_4_1 _ _ _ _ _) | (with_reducible exact heap_4_2 _ _ _ _ _) | (with_reducible exact heap_4_3 _ _ _ _ _) | (with_reducible exact heap_5_0 _ _ _ _ _ _) | (with_reducible exact heap_5_1 _ _ _ _ _ _) | (with_reducible exact heap_5_2 _ _ _ _ _ _) | (with_reducible exact heap_5_3 _ _ _ _ _ _) | (with_reducible exact heap_5_4 _ _ _ _ _ _) | (with_reducible exact heap_6_0 _ _ _ _ _ _ _) | (with_reducible exact heap_6_1 _ _ _ _ _ _ _) | (with_reducible exact heap_6_2 _ _ _ _ _ _ _) | (with_reducible exact heap_6_3 _ _ _ _ _ _ _) | (with_reducible exact heap_6_4 _ _ _ _ _ _ _) | (with_reducible exact heap_6_5 _ _ _ _ _ _ _) | simp only [heap_alloc_past, heap_alloc_at, World.size_alloc, Nat.add_assoc, Nat.reduceAdd, Nat.lt_add_right_iff_pos, Nat.add_lt_add_iff_left, Nat.reduceLT, Nat.zero_lt_succ, Nat.lt_add_one])⟩
  have B0 := Lib.hid (below2 w (.cells #[.int .i64 0] 3) (.cells #[.int .i64 0] 3))
  have SZ : Hid (w.heap.size + 2 ≤ ((w.alloc (.cells #[.int .i64 0] 3)).alloc (.cells #[.int .i64 0] 3)).heap.size) := by show _ ≤ _; simp
  generalize hH : w.heap.size = H at *
  generalize hW0 : ((w.alloc (.cells #[.int .i64 0] 3)).alloc (.cells #[.int .i64 0] 3)) = W0 at *
  have SP2 := Lib.hid (SP.out W0 (HS.out.below (by rw [hH]; exact B0.out)))
  clear hW0 SP PR HS
  go_wp2_with fail
  (with_reducible refine SP2.out.mono ?_)
  rintro e w1 ⟨P, v, rfl, hQ, hb⟩
  have V1 := Lib.hid (V0.out.below hb)
  have B1 := Lib.hid (B0.out.trans (hb.mono (by have := SZ.out; omega)))
  have Q1 := Lib.hid hQ
  obtain ⟨B, hB⟩ : ∃ B, B = W0.heap.size := ⟨_, rfl⟩
  rw [← hB] at Q1 SZ
  have HBB : Hid (H + 2 ≤ B) := SZ.out
  clear hb hQ V0 B0 SP2 SZ hB
  go_wp2
  go_loopw [19] (fun i wr => ∃ k : Nat, k ≤ m ∧ i = .int .i64 k ∧ Hv2 wr H ((hv f k).1 : Nat) ((hv f k).2 : Nat) ∧ Parts wr B P m v (fun j => Ky.part m j L) ∧ Below H w wr) (fun i _ => m - (intOf i).toNat)
  case atStart => exact ⟨0, by omega, rfl, V1.out, Q1.out, B1.out⟩
  case round =>
    clear V1 Q1 B1
    obtain ⟨k, hk, rfl, hV, hQ, hB⟩ := hrel
    by_cases hlt : k < m
    · obtain ⟨pk, ck, ev, _, _⟩ := (hQ.own k hlt).sl
      have cv := hQ.cell k hlt
      have HFk := HF.out k
      simp only [HFk] at ev
      rw [ev] at cv
      have HQ := Lib.hid hQ
      have HB := Lib.hid hB
      have HV := Lib.hid hV
      have hfk := HFL.out k
      have hvl := (hv_le f 100000 HFL.out k)
      have i1 : (0 : Int) ≤ k := by omega
      have i2 : (k : Int) < m := by omega
      clear hQ hB ev hV HFk
      by_cases hw : (hv f k).2 < f k
      · have hnx : hv f (k + 1) = (k, f k) := if_pos hw
        have HNX := Lib.hid hnx
        have WY := Lib.hid (weigh_yes HV.out k (f k) (by omega))
        clear hnx hvl
        go_wp2_with fail
        (with_reducible refine WY.out.mono ?_)
        rintro e w3 ⟨⟨u, rfl⟩, hV3, ht⟩
        have V3 := Lib.hid hV3
        have Q3 : Hid (Parts w3 B P m v (fun j => Ky.part m j L)) := by
          have := HBB.out
          have hl := HQ.out.low
          refine ⟨HQ.out.low, (ht.block P (lt_of_heap HQ.out.row) (fun e => by rcases e with e | e <;> omega)).trans HQ.out.row, fun j hj => (HQ.out.own j hj).same ht.size (fun b hb => ht.block b ((HQ.out.own j hj).lt b hb).2 (fun e => ?_)), HQ.out.apP, HQ.out.apX⟩
          have := ((HQ.out.own j hj).lt b hb).1
          rcases e with e | e <;> omega
        have B3 := Lib.hid (HB.out.trans (ht.below (B := H) (fun z e => by rcases e with e | e <;> omega) (by have := HB.out.size; omega)))
        clear hV3 ht WY cv
        go_wp2
        go_roundw
        case rel => exact ⟨k + 1, by omega, by go_num, by rw [HNX.out]; exact V3.out, Q3.out, B3.out⟩
        case measure => simp [intOf]; omega
      · have hnx : hv f (k + 1) = hv f k := if_neg hw
        have HNX := Lib.hid hnx
        have WN := Lib.hid (weigh_no HV.out k (f k) (by omega))
        clear hnx hvl
        go_wp2_with fail
        (with_reducible refine WN.out.mono ?_)
        rintro e w3 ⟨⟨u, rfl⟩, rfl⟩
        clear WN cv
        go_wp2
        go_roundw
        case rel => exact ⟨k + 1, by omega, by go_num, by rw [HNX.out]; exact HV.out, HQ.out, HB.out⟩
        case measure => simp [intOf]; omega
    · obtain rfl : k = m := by omega
      have c0 : wr.cell? ⟨H, 0, none⟩ = some (.int .i64 ((hv f k).1 : Nat)) := by rw [cell_of_row _ _ _ _ _ _ hV.c0]; rfl
      have c1 : wr.cell? ⟨H + 1, 0, none⟩ = some (.int .i64 ((hv f k).2 : Nat)) := by rw [cell_of_row _ _ _ _ _ _ hV.c1]; rfl
      have HB := Lib.hid hB
      clear hV hQ hB
      go_wp2
      go_quiet (fail)
      go_wp2
      go_ret2
      exact ⟨rfl, by rw [hH]; exact below_drewN HB.out _⟩
end Go.Proofs.Ytapgcbjlgekpeaa
