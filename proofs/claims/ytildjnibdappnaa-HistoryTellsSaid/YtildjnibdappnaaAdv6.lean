/- Reasons (layer 14). -/
import Derived.Test.YtildjnibdappnaaAdv5
namespace Go.Proofs.Ytildjnibdappnaa
open Go.ChangeShapes Go.WideShapes Go.ChangeAt Go.RowKit

set_option maxHeartbeats 2000000 in
set_option maxRecDepth 100000 in
theorem history_reasons (p : Option Addr) (cap : Nat) (l : List Adv) (hb : l.length ≤ 100000) (w : World) (hs : Advs w p l) :
    Calls Try.prog 24 #[.slice p l.length cap] w fun e w' => e = .returned (.agg (Adv.row7 (Adv.tally l))) ∧ Below w.heap.size w w' := by
  have HS := Lib.hid hs
  obtain ⟨n, hn⟩ : ∃ n, n = l.length := ⟨_, rfl⟩
  have HG : Hid (Adv.tally (l.take n) = Adv.tally l) := by show _ = _; rw [hn, List.take_length]
  have HZ := Lib.hid (Adv.row7_zero l)
  obtain ⟨r, hr⟩ : ∃ r, r = Adv.tally l := ⟨_, rfl⟩
  rw [← hr] at HG ⊢
  rw [← hn] at hb ⊢
  have HN := Lib.hid hn
  clear hs hn hr
  go_enter Try.func24, Try.ntmps24
  go_wp2
  go_loopw [8] (fun i wr => ∃ k : Nat, k ≤ n ∧ i = .int .i64 k ∧ wr.heap[w.heap.size]? = some (.cells #[.int .i64 0, .int .i64 0, .int .i64 0, .int .i64 0, .int .i64 0, .int .i64 0, .int .i64 0] 39 (0, 0)) ∧ wr.heap[w.heap.size + 1]? = some (.cells (Adv.row7 (Adv.tally (l.take k))) 39 (0, 0)) ∧ Below w.heap.size w wr) (fun i _ => n - (intOf i).toNat)
  case atStart => exact ⟨0, by omega, rfl, (by first | (with_reducible exact heap_1_0 _ _) | (with_reducible exact heap_2_0 _ _ _) | (with_reducible exact heap_2_1 _ _ _) | (with_reducible exact heap_3_0 _ _ _ _) | (with_reducible exact heap_3_1 _ _ _ _) | (with_reducible exact heap_3_2 _ _ _ _) | (with_reducible exact heap_4_0 _ _ _ _ _) | (with_reducible exact heap_4_1 _ _ _ _ _) | (with_reducible exact heap_4_2 _ _ _ _ _) | (with_reducible exact heap_4_3 _ _ _ _ _) | (with_reducible exact heap_5_0 _ _ _ _ _ _) | (with_reducible exact heap_5_1 _ _ _ _ _ _) | (with_reducible exact heap_5_2 _ _ _ _ _ _) | (with_reducible exact heap_5_3 _ _ _ _ _ _) | (with_reducible exact heap_5_4 _ _ _ _ _ _) | (with_reducible exact heap_6_0 _ _ _ _ _ _ _) | (with_reducible exact heap_6_1 _ _ _ _ _ _ _) | (with_reducible exact heap_6_2 _ _ _ _ _ _ _) | (with_reducible exact heap_6_3 _ _ _ _ _ _ _) | (with_reducible exact heap_6_4 _ _ _ _ _ _ _) | (with_reducible exact heap_6_5 _ _ _ _ _ _ _) | simp only [heap_alloc_past, heap_alloc_at, World.size_alloc, Nat.add_assoc, Nat.reduceAdd, Nat.lt_add_right_iff_pos, Nat.add_lt_add_iff_left, Nat.reduceLT, Nat.zero_lt_succ, Nat.lt_add_one]), by rw [HZ.out]; exact (by first | (with_reducible exact heap_1_0 _ _) | (with_reducible exact heap_2_0 _ _ _) | (with_reducible exact heap_2_1 _ _ _) | (with_reducible exact heap_3_0 _ _ _ _) | (with_reducible exact heap_3_1 _ _ _ _) | (with_reducible exact heap_3_2 _ _ _ _) | (with_reducible exact heap_4_0 _ _ _ _ _) | (with_reducible exact heap_4_1 _ _ _ _ _) | (with_reducible exact heap_4_2 _ _ _ _ _) | (with_reducible exact heap_4_3 _ _ _ _ _) | (with_reducible exact heap_5_0 _ _ _ _ _ _) | (with_reducible exact heap_5_1 _ _ _ _ _ _) | (with_reducible exact heap_5_2 _ _ _ _ _ _) | (with_reducible exact heap_5_3 _ _ _ _ _ _) | (with_reducible exact heap_5_4 _ _ _ _ _ _) | (with_reducible exact heap_6_0 _ _ _ _ _ _ _) | (with_reducible exact heap_6_1 _ _ _ _ _ _ _) | (with_reducible exact heap_6_2 _ _ _ _ _ _ _) | (with_reducible exact heap_6_3 _ _ _ _ _ _ _) | (with_reducible exact heap_6_4 _ _ _ _ _ _ _) | (with_reducible exact heap_6_5 _ _ _ _ _ _ _) | simp only [heap_alloc_past, heap_alloc_at, World.size_alloc, Nat.add_assoc, Nat.reduceAdd, Nat.lt_add_right_iff_pos, Nat.add_lt_add_iff_left, Nat.reduceLT, Nat.zero_lt_succ, Nat.lt_add_one]), ((Below.refl _ _).alloc (Nat.le_refl _) _).alloc (by simp) _⟩
  case round =>
    obtain ⟨k, hk, rfl, h0, h1, hB⟩ := hrel
    by_cases hlt : k < n
    · have hkl : k < l.length := by have := HN.out; omega
      obtain ⟨b, off, rfl, hbw, c0, c1, c2, c3, c4⟩ := HS.out.cells k hkl
      have hnx := Adv.tally_next l k hkl
      have htb := Adv.tally_bd (l.take k)
      have hlen : (l.take k).length ≤ k := List.length_take_le _ _
      rw [← hB.cell (p := ⟨b, _, none⟩) hbw] at c0 c1 c2 c3 c4
      obtain ⟨a, ha⟩ : ∃ a, a = l[k]?.getD default := ⟨_, rfl⟩
      rw [← ha] at c0 c1 c2 c3 c4
      simp only [← ha] at hnx
      obtain ⟨t, et⟩ : ∃ t, t = Adv.tally (l.take k) := ⟨_, rfl⟩
      obtain ⟨t2, et2⟩ : ∃ t, t = Adv.tally (l.take (k + 1)) := ⟨_, rfl⟩
      simp only [← et, ← et2] at hnx htb h1 ⊢
      obtain ⟨m, em⟩ : ∃ m, m = (l.take k).length := ⟨_, rfl⟩
      rw [← em] at hlen
      simp only [← em] at htb
      have ET := Lib.hid et2
      clear ha hkl et et2 em
      obtain ⟨tick, load, want, repl, why⟩ := a
      simp only at c0 c1 c2 c3 c4
      by_cases hw : 1 ≤ why ∧ why ≤ 6
      · obtain h | h | h | h | h | h : why = 1 ∨ why = 2 ∨ why = 3 ∨ why = 4 ∨ why = 5 ∨ why = 6 := by omega
        · subst h
          have hsl : Adv.slot ⟨tick, load, want, repl, 1⟩ = 1 := rfl
          clear hw
          have hne := hnx
          have hbump := Adv.row7_bump t t2 1 (by omega) (by intro i; have := hnx i; rw [hsl] at this; exact this)
          have hA0 : (wr.alloc (.cells #[.int .i64 tick, .int .i64 load, .int .i64 want, .int .i64 repl, .int .i64 1] 24)).heap[w.heap.size]? = some (.cells #[.int .i64 0, .int .i64 0, .int .i64 0, .int .i64 0, .int .i64 0, .int .i64 0, .int .i64 0] 39 (0, 0)) := (heap_alloc_past _ _ _ (by have := lt_of_heap h0; omega)).trans h0
          have hA1 : (wr.alloc (.cells #[.int .i64 tick, .int .i64 load, .int .i64 want, .int .i64 repl, .int .i64 1] 24)).heap[w.heap.size + 1]? = some (.cells (Adv.row7 t) 39 (0, 0)) := (heap_alloc_past _ _ _ (by have := lt_of_heap h1; omega)).trans h1
          have d1 : (wr.alloc (.cells #[.int .i64 tick, .int .i64 load, .int .i64 want, .int .i64 repl, .int .i64 1] 24)).cell? ⟨w.heap.size + 1, 1, none⟩ = some (.int .i64 (t 1)) := by rw [cell_of_row _ _ _ _ _ _ hA1]; rfl
          have g1 : (wr.alloc (.cells #[.int .i64 tick, .int .i64 load, .int .i64 want, .int .i64 repl, .int .i64 1] 24)).frozen? ⟨w.heap.size + 1, 1, none⟩ = false := frozen_of_row _ _ _ _ _ hA1
          have hbA : Below w.heap.size w (wr.alloc (.cells #[.int .i64 tick, .int .i64 load, .int .i64 want, .int .i64 repl, .int .i64 1] 24)) := hB.alloc hB.size _
          have B0 := Lib.hid hA0
          have B1 := Lib.hid hA1
          have BB := Lib.hid hbA
          have BU := Lib.hid hbump
          have hbd := htb 1
          clear hA0 hA1 hbA hbump hne hnx htb h0 h1 hB hsl
          go_wp2
          exact ⟨⟨k + 1, by omega, by go_num, (Below.heap_setCell _ _ _ _ (by simp)).trans B0.out, by rw [heap_setCell_same _ _ _ _ _ _ B1.out, ← ET.out, BU.out], BB.out.setCell (by simp) _⟩, by simp [intOf]; omega⟩
        · subst h
          have hsl : Adv.slot ⟨tick, load, want, repl, 2⟩ = 2 := rfl
          clear hw
          have hne := hnx
          have hbump := Adv.row7_bump t t2 2 (by omega) (by intro i; have := hnx i; rw [hsl] at this; exact this)
          have hA0 : (wr.alloc (.cells #[.int .i64 tick, .int .i64 load, .int .i64 want, .int .i64 repl, .int .i64 2] 24)).heap[w.heap.size]? = some (.cells #[.int .i64 0, .int .i64 0, .int .i64 0, .int .i64 0, .int .i64 0, .int .i64 0, .int .i64 0] 39 (0, 0)) := (heap_alloc_past _ _ _ (by have := lt_of_heap h0; omega)).trans h0
          have hA1 : (wr.alloc (.cells #[.int .i64 tick, .int .i64 load, .int .i64 want, .int .i64 repl, .int .i64 2] 24)).heap[w.heap.size + 1]? = some (.cells (Adv.row7 t) 39 (0, 0)) := (heap_alloc_past _ _ _ (by have := lt_of_heap h1; omega)).trans h1
          have d1 : (wr.alloc (.cells #[.int .i64 tick, .int .i64 load, .int .i64 want, .int .i64 repl, .int .i64 2] 24)).cell? ⟨w.heap.size + 1, 2, none⟩ = some (.int .i64 (t 2)) := by rw [cell_of_row _ _ _ _ _ _ hA1]; rfl
          have g1 : (wr.alloc (.cells #[.int .i64 tick, .int .i64 load, .int .i64 want, .int .i64 repl, .int .i64 2] 24)).frozen? ⟨w.heap.size + 1, 2, none⟩ = false := frozen_of_row _ _ _ _ _ hA1
          have hbA : Below w.heap.size w (wr.alloc (.cells #[.int .i64 tick, .int .i64 load, .int .i64 want, .int .i64 repl, .int .i64 2] 24)) := hB.alloc hB.size _
          have B0 := Lib.hid hA0
          have B1 := Lib.hid hA1
          have BB := Lib.hid hbA
          have BU := Lib.hid hbump
          have hbd := htb 2
          clear hA0 hA1 hbA hbump hne hnx htb h0 h1 hB hsl
          go_wp2
          exact ⟨⟨k + 1, by omega, by go_num, (Below.heap_setCell _ _ _ _ (by simp)).trans B0.out, by rw [heap_setCell_same _ _ _ _ _ _ B1.out, ← ET.out, BU.out], BB.out.setCell (by simp) _⟩, by simp [intOf]; omega⟩
        · subst h
          have hsl : Adv.slot ⟨tick, load, want, repl, 3⟩ = 3 := rfl
          clear hw
          have hne := hnx
          have hbump := Adv.row7_bump t t2 3 (by omega) (by intro i; have := hnx i; rw [hsl] at this; exact this)
          have hA0 : (wr.alloc (.cells #[.int .i64 tick, .int .i64 load, .int .i64 want, .int .i64 repl, .int .i64 3] 24)).heap[w.heap.size]? = some (.cells #[.int .i64 0, .int .i64 0, .int .i64 0, .int .i64 0, .int .i64 0, .int .i64 0, .int .i64 0] 39 (0, 0)) := (heap_alloc_past _ _ _ (by have := lt_of_heap h0; omega)).trans h0
          have hA1 : (wr.alloc (.cells #[.int .i64 tick, .int .i64 load, .int .i64 want, .int .i64 repl, .int .i64 3] 24)).heap[w.heap.size + 1]? = some (.cells (Adv.row7 t) 39 (0, 0)) := (heap_alloc_past _ _ _ (by have := lt_of_heap h1; omega)).trans h1
          have d1 : (wr.alloc (.cells #[.int .i64 tick, .int .i64 load, .int .i64 want, .int .i64 repl, .int .i64 3] 24)).cell? ⟨w.heap.size + 1, 3, none⟩ = some (.int .i64 (t 3)) := by rw [cell_of_row _ _ _ _ _ _ hA1]; rfl
          have g1 : (wr.alloc (.cells #[.int .i64 tick, .int .i64 load, .int .i64 want, .int .i64 repl, .int .i64 3] 24)).frozen? ⟨w.heap.size + 1, 3, none⟩ = false := frozen_of_row _ _ _ _ _ hA1
          have hbA : Below w.heap.size w (wr.alloc (.cells #[.int .i64 tick, .int .i64 load, .int .i64 want, .int .i64 repl, .int .i64 3] 24)) := hB.alloc hB.size _
          have B0 := Lib.hid hA0
          have B1 := Lib.hid hA1
          have BB := Lib.hid hbA
          have BU := Lib.hid hbump
          have hbd := htb 3
          clear hA0 hA1 hbA hbump hne hnx htb h0 h1 hB hsl
          go_wp2
          exact ⟨⟨k + 1, by omega, by go_num, (Below.heap_setCell _ _ _ _ (by simp)).trans B0.out, by rw [heap_setCell_same _ _ _ _ _ _ B1.out, ← ET.out, BU.out], BB.out.setCell (by simp) _⟩, by simp [intOf]; omega⟩
        · subst h
          have hsl : Adv.slot ⟨tick, load, want, repl, 4⟩ = 4 := rfl
          clear hw
          have hne := hnx
          have hbump := Adv.row7_bump t t2 4 (by omega) (by intro i; have := hnx i; rw [hsl] at this; exact this)
          have hA0 : (wr.alloc (.cells #[.int .i64 tick, .int .i64 load, .int .i64 want, .int .i64 repl, .int .i64 4] 24)).heap[w.heap.size]? = some (.cells #[.int .i64 0, .int .i64 0, .int .i64 0, .int .i64 0, .int .i64 0, .int .i64 0, .int .i64 0] 39 (0, 0)) := (heap_alloc_past _ _ _ (by have := lt_of_heap h0; omega)).trans h0
          have hA1 : (wr.alloc (.cells #[.int .i64 tick, .int .i64 load, .int .i64 want, .int .i64 repl, .int .i64 4] 24)).heap[w.heap.size + 1]? = some (.cells (Adv.row7 t) 39 (0, 0)) := (heap_alloc_past _ _ _ (by have := lt_of_heap h1; omega)).trans h1
          have d1 : (wr.alloc (.cells #[.int .i64 tick, .int .i64 load, .int .i64 want, .int .i64 repl, .int .i64 4] 24)).cell? ⟨w.heap.size + 1, 4, none⟩ = some (.int .i64 (t 4)) := by rw [cell_of_row _ _ _ _ _ _ hA1]; rfl
          have g1 : (wr.alloc (.cells #[.int .i64 tick, .int .i64 load, .int .i64 want, .int .i64 repl, .int .i64 4] 24)).frozen? ⟨w.heap.size + 1, 4, none⟩ = false := frozen_of_row _ _ _ _ _ hA1
          have hbA : Below w.heap.size w (wr.alloc (.cells #[.int .i64 tick, .int .i64 load, .int .i64 want, .int .i64 repl, .int .i64 4] 24)) := hB.alloc hB.size _
          have B0 := Lib.hid hA0
          have B1 := Lib.hid hA1
          have BB := Lib.hid hbA
          have BU := Lib.hid hbump
          have hbd := htb 4
          clear hA0 hA1 hbA hbump hne hnx htb h0 h1 hB hsl
          go_wp2
          exact ⟨⟨k + 1, by omega, by go_num, (Below.heap_setCell _ _ _ _ (by simp)).trans B0.out, by rw [heap_setCell_same _ _ _ _ _ _ B1.out, ← ET.out, BU.out], BB.out.setCell (by simp) _⟩, by simp [intOf]; omega⟩
        · subst h
          have hsl : Adv.slot ⟨tick, load, want, repl, 5⟩ = 5 := rfl
          clear hw
          have hne := hnx
          have hbump := Adv.row7_bump t t2 5 (by omega) (by intro i; have := hnx i; rw [hsl] at this; exact this)
          have hA0 : (wr.alloc (.cells #[.int .i64 tick, .int .i64 load, .int .i64 want, .int .i64 repl, .int .i64 5] 24)).heap[w.heap.size]? = some (.cells #[.int .i64 0, .int .i64 0, .int .i64 0, .int .i64 0, .int .i64 0, .int .i64 0, .int .i64 0] 39 (0, 0)) := (heap_alloc_past _ _ _ (by have := lt_of_heap h0; omega)).trans h0
          have hA1 : (wr.alloc (.cells #[.int .i64 tick, .int .i64 load, .int .i64 want, .int .i64 repl, .int .i64 5] 24)).heap[w.heap.size + 1]? = some (.cells (Adv.row7 t) 39 (0, 0)) := (heap_alloc_past _ _ _ (by have := lt_of_heap h1; omega)).trans h1
          have d1 : (wr.alloc (.cells #[.int .i64 tick, .int .i64 load, .int .i64 want, .int .i64 repl, .int .i64 5] 24)).cell? ⟨w.heap.size + 1, 5, none⟩ = some (.int .i64 (t 5)) := by rw [cell_of_row _ _ _ _ _ _ hA1]; rfl
          have g1 : (wr.alloc (.cells #[.int .i64 tick, .int .i64 load, .int .i64 want, .int .i64 repl, .int .i64 5] 24)).frozen? ⟨w.heap.size + 1, 5, none⟩ = false := frozen_of_row _ _ _ _ _ hA1
          have hbA : Below w.heap.size w (wr.alloc (.cells #[.int .i64 tick, .int .i64 load, .int .i64 want, .int .i64 repl, .int .i64 5] 24)) := hB.alloc hB.size _
          have B0 := Lib.hid hA0
          have B1 := Lib.hid hA1
          have BB := Lib.hid hbA
          have BU := Lib.hid hbump
          have hbd := htb 5
          clear hA0 hA1 hbA hbump hne hnx htb h0 h1 hB hsl
          go_wp2
          exact ⟨⟨k + 1, by omega, by go_num, (Below.heap_setCell _ _ _ _ (by simp)).trans B0.out, by rw [heap_setCell_same _ _ _ _ _ _ B1.out, ← ET.out, BU.out], BB.out.setCell (by simp) _⟩, by simp [intOf]; omega⟩
        · subst h
          have hsl : Adv.slot ⟨tick, load, want, repl, 6⟩ = 6 := rfl
          clear hw
          have hne := hnx
          have hbump := Adv.row7_bump t t2 6 (by omega) (by intro i; have := hnx i; rw [hsl] at this; exact this)
          have hA0 : (wr.alloc (.cells #[.int .i64 tick, .int .i64 load, .int .i64 want, .int .i64 repl, .int .i64 6] 24)).heap[w.heap.size]? = some (.cells #[.int .i64 0, .int .i64 0, .int .i64 0, .int .i64 0, .int .i64 0, .int .i64 0, .int .i64 0] 39 (0, 0)) := (heap_alloc_past _ _ _ (by have := lt_of_heap h0; omega)).trans h0
          have hA1 : (wr.alloc (.cells #[.int .i64 tick, .int .i64 load, .int .i64 want, .int .i64 repl, .int .i64 6] 24)).heap[w.heap.size + 1]? = some (.cells (Adv.row7 t) 39 (0, 0)) := (heap_alloc_past _ _ _ (by have := lt_of_heap h1; omega)).trans h1
          have d1 : (wr.alloc (.cells #[.int .i64 tick, .int .i64 load, .int .i64 want, .int .i64 repl, .int .i64 6] 24)).cell? ⟨w.heap.size + 1, 6, none⟩ = some (.int .i64 (t 6)) := by rw [cell_of_row _ _ _ _ _ _ hA1]; rfl
          have g1 : (wr.alloc (.cells #[.int .i64 tick, .int .i64 load, .int .i64 want, .int .i64 repl, .int .i64 6] 24)).frozen? ⟨w.heap.size + 1, 6, none⟩ = false := frozen_of_row _ _ _ _ _ hA1
          have hbA : Below w.heap.size w (wr.alloc (.cells #[.int .i64 tick, .int .i64 load, .int .i64 want, .int .i64 repl, .int .i64 6] 24)) := hB.alloc hB.size _
          have B0 := Lib.hid hA0
          have B1 := Lib.hid hA1
          have BB := Lib.hid hbA
          have BU := Lib.hid hbump
          have hbd := htb 6
          clear hA0 hA1 hbA hbump hne hnx htb h0 h1 hB hsl
          go_wp2
          exact ⟨⟨k + 1, by omega, by go_num, (Below.heap_setCell _ _ _ _ (by simp)).trans B0.out, by rw [heap_setCell_same _ _ _ _ _ _ B1.out, ← ET.out, BU.out], BB.out.setCell (by simp) _⟩, by simp [intOf]; omega⟩
      · have hsl : Adv.slot ⟨tick, load, want, repl, why⟩ = 0 := by unfold Adv.slot; rw [if_neg hw]
        by_cases hw1 : 1 ≤ why
        · have hw2 : 6 < why := by omega
          clear hw
          have hne := hnx
          have hbump := Adv.row7_bump t t2 0 (by omega) (by intro i; have := hnx i; rw [hsl] at this; exact this)
          have hA0 : (wr.alloc (.cells #[.int .i64 tick, .int .i64 load, .int .i64 want, .int .i64 repl, .int .i64 why] 24)).heap[w.heap.size]? = some (.cells #[.int .i64 0, .int .i64 0, .int .i64 0, .int .i64 0, .int .i64 0, .int .i64 0, .int .i64 0] 39 (0, 0)) := (heap_alloc_past _ _ _ (by have := lt_of_heap h0; omega)).trans h0
          have hA1 : (wr.alloc (.cells #[.int .i64 tick, .int .i64 load, .int .i64 want, .int .i64 repl, .int .i64 why] 24)).heap[w.heap.size + 1]? = some (.cells (Adv.row7 t) 39 (0, 0)) := (heap_alloc_past _ _ _ (by have := lt_of_heap h1; omega)).trans h1
          have d1 : (wr.alloc (.cells #[.int .i64 tick, .int .i64 load, .int .i64 want, .int .i64 repl, .int .i64 why] 24)).cell? ⟨w.heap.size + 1, 0, none⟩ = some (.int .i64 (t 0)) := by rw [cell_of_row _ _ _ _ _ _ hA1]; rfl
          have g1 : (wr.alloc (.cells #[.int .i64 tick, .int .i64 load, .int .i64 want, .int .i64 repl, .int .i64 why] 24)).frozen? ⟨w.heap.size + 1, 0, none⟩ = false := frozen_of_row _ _ _ _ _ hA1
          have hbA : Below w.heap.size w (wr.alloc (.cells #[.int .i64 tick, .int .i64 load, .int .i64 want, .int .i64 repl, .int .i64 why] 24)) := hB.alloc hB.size _
          have B0 := Lib.hid hA0
          have B1 := Lib.hid hA1
          have BB := Lib.hid hbA
          have BU := Lib.hid hbump
          have hbd := htb 0
          clear hA0 hA1 hbA hbump hne hnx htb h0 h1 hB hsl
          go_wp2
          exact ⟨⟨k + 1, by omega, by go_num, (Below.heap_setCell _ _ _ _ (by simp)).trans B0.out, by rw [heap_setCell_same _ _ _ _ _ _ B1.out, ← ET.out, BU.out], BB.out.setCell (by simp) _⟩, by simp [intOf]; omega⟩
        · have hw2 : why < 1 := by omega
          clear hw hw1
          have hne := hnx
          have hbump := Adv.row7_bump t t2 0 (by omega) (by intro i; have := hnx i; rw [hsl] at this; exact this)
          have hA0 : (wr.alloc (.cells #[.int .i64 tick, .int .i64 load, .int .i64 want, .int .i64 repl, .int .i64 why] 24)).heap[w.heap.size]? = some (.cells #[.int .i64 0, .int .i64 0, .int .i64 0, .int .i64 0, .int .i64 0, .int .i64 0, .int .i64 0] 39 (0, 0)) := (heap_alloc_past _ _ _ (by have := lt_of_heap h0; omega)).trans h0
          have hA1 : (wr.alloc (.cells #[.int .i64 tick, .int .i64 load, .int .i64 want, .int .i64 repl, .int .i64 why] 24)).heap[w.heap.size + 1]? = some (.cells (Adv.row7 t) 39 (0, 0)) := (heap_alloc_past _ _ _ (by have := lt_of_heap h1; omega)).trans h1
          have d1 : (wr.alloc (.cells #[.int .i64 tick, .int .i64 load, .int .i64 want, .int .i64 repl, .int .i64 why] 24)).cell? ⟨w.heap.size + 1, 0, none⟩ = some (.int .i64 (t 0)) := by rw [cell_of_row _ _ _ _ _ _ hA1]; rfl
          have g1 : (wr.alloc (.cells #[.int .i64 tick, .int .i64 load, .int .i64 want, .int .i64 repl, .int .i64 why] 24)).frozen? ⟨w.heap.size + 1, 0, none⟩ = false := frozen_of_row _ _ _ _ _ hA1
          have hbA : Below w.heap.size w (wr.alloc (.cells #[.int .i64 tick, .int .i64 load, .int .i64 want, .int .i64 repl, .int .i64 why] 24)) := hB.alloc hB.size _
          have B0 := Lib.hid hA0
          have B1 := Lib.hid hA1
          have BB := Lib.hid hbA
          have BU := Lib.hid hbump
          have hbd := htb 0
          clear hA0 hA1 hbA hbump hne hnx htb h0 h1 hB hsl
          go_wp2
          exact ⟨⟨k + 1, by omega, by go_num, (Below.heap_setCell _ _ _ _ (by simp)).trans B0.out, by rw [heap_setCell_same _ _ _ _ _ _ B1.out, ← ET.out, BU.out], BB.out.setCell (by simp) _⟩, by simp [intOf]; omega⟩
    · obtain rfl : k = n := by omega
      rw [HG.out] at h1
      have B0 := Lib.hid h0
      have B1 := Lib.hid h1
      have BB := Lib.hid hB
      clear h0 h1 hB
      go_wp2_with (first | ((with_reducible refine wpList_load_rowAs rfl 39 _ rfl ((w.heap.size + 1)) ?_ 39 (Adv.row7 r) (0, 0) _ 7 ?_ Try.underlying39 rfl (by kernel_rfl) ?_ ?_); exact rfl; exact B1.out; exact rfl) | ((with_reducible refine wpList_store_rowAs rfl 39 _ _ rfl (w.heap.size) #[.int .i64 (r 0), .int .i64 (r 1), .int .i64 (r 2), .int .i64 (r 3), .int .i64 (r 4), .int .i64 (r 5), .int .i64 (r 6)] ?_ ?_ 39 #[.int .i64 0, .int .i64 0, .int .i64 0, .int .i64 0, .int .i64 0, .int .i64 0, .int .i64 0] 7 ?_ (by kernel_rfl) rfl rfl (by simp [Value.oneCell']) ?_); exact rfl; exact rfl; exact B0.out))
      exact bodyPost_ret (results_cell_row rfl _ _ w.heap.size 39 (Adv.row7 r) (0, 0) _ rfl (setRow_heap _ _ _ _ _ _ B0.out) Try.underlying39 rfl (by kernel_rfl)) rfl ⟨rfl, below_setRow BB.out (Nat.le_refl _) _⟩
end Go.Proofs.Ytildjnibdappnaa
