/- Layer 7: slices.Grow and slices.Concat, of decisions. -/
import Derived.Test.YtildjnibdappnaaRingI3
import Derived.Test.YtildjnibdappnaaRingA3
import Derived.Lib.AppendZerosOnto
namespace Go.Proofs.Ytildjnibdappnaa
open Go.ChangeShapes Go.WideShapes Go.ChangeAt Go.RowKit



theorem zeroCells_size5 (n : Nat) : (Builtin.zeroCells #[.int .i64 0, .int .i64 0, .int .i64 0, .int .i64 0, .int .i64 0] n).size = n * 5 := by
  unfold Builtin.zeroCells
  simp

set_option maxHeartbeats 1000000 in
set_option maxRecDepth 100000 in
theorem growA_nil (n : Nat) (hn : n ≤ 100000) (w : World) :
    Calls Try.prog 126 #[.slice none 0 0, .int .i64 n] w fun e w' => ∃ v, e = .returned v ∧ Owns w' w.heap.size 5 v 0 [] ∧ Below w.heap.size w w' := by
  by_cases h0 : n = 0
  · subst h0
    go_enter Try.func126, Try.ntmps126
    go_wp2
    go_ret
    exact ⟨_, rfl, owns_nil _ _ _, Below.refl _ _⟩
  · obtain ⟨i0, hi, hz0, hz1, hz2⟩ := info_parts advInfo
    have hrz : ∀ ty, (Builtin.append_ #[22, 3] ty #[.slice none 0 0, .int .i64 n]).run Try.prog w =
        .ok (.slice (some ⟨w.heap.size, 0, none⟩) n (grownCap w n 0 24)) (w.drew.alloc (.cells (#[] ++ Builtin.zeroCells #[.int .i64 0, .int .i64 0, .int .i64 0, .int .i64 0, .int .i64 0] n ++ Builtin.zeroCells #[.int .i64 0, .int .i64 0, .int .i64 0, .int .i64 0, .int .i64 0] (grownCap w n 0 24 - n)) 24)) := fun ty => by
      have h := Lib.run_append_grow_zeros (P := Try.prog) w 22 3 ty 24 i0 (.agg #[.int .i64 0, .int .i64 0, .int .i64 0, .int .i64 0, .int .i64 0]) .i64 .i64 Try.underlying22 Try.underlying3 hi hz0 none 0 0 [] (run_firstCells_none w.drew i0.size 0 0 0) n (by omega) (by rw [hz1]; decide) (by omega) (by omega) (by rw [hz2]; omega)
        (by have := growslice_fits (need := 0 + n) (old := 0) (bytes := i0.bytes) (by omega) (by rw [hz2]; omega); exact this)
      rw [Nat.zero_add] at h
      exact h
    have hG := grownCap_ge w n 0 24
    have hG2 : grownCap w n 0 24 ≤ 9223372036854775807 := by
      have := grownCap_le_maxLen w n 0 24 (by unfold maxLen; omega)
      unfold maxLen at this
      omega
    obtain ⟨G, eG⟩ : ∃ G, G = grownCap w n 0 24 := ⟨_, rfl⟩
    rw [← eG] at hG hG2
    simp only [← eG] at hrz
    clear eG
    have how : Owns (w.drew.alloc (.cells (#[] ++ Builtin.zeroCells #[.int .i64 0, .int .i64 0, .int .i64 0, .int .i64 0, .int .i64 0] n ++ Builtin.zeroCells #[.int .i64 0, .int .i64 0, .int .i64 0, .int .i64 0, .int .i64 0] (G - n)) 24)) w.heap.size 5 (.slice (some ⟨w.heap.size, 0, none⟩) 0 G) 0 [] := by
      refine ⟨rfl, .inr ⟨w.heap.size, G, rfl, Nat.le_refl _, by simp, Nat.zero_le _, fun j u hu => by simp at hu, fun j hj => ?_⟩⟩
      have hh : (w.drew.alloc (.cells (#[] ++ Builtin.zeroCells #[.int .i64 0, .int .i64 0, .int .i64 0, .int .i64 0, .int .i64 0] n ++ Builtin.zeroCells #[.int .i64 0, .int .i64 0, .int .i64 0, .int .i64 0, .int .i64 0] (G - n)) 24)).heap[w.heap.size]? = some (.cells (#[] ++ Builtin.zeroCells #[.int .i64 0, .int .i64 0, .int .i64 0, .int .i64 0, .int .i64 0] n ++ Builtin.zeroCells #[.int .i64 0, .int .i64 0, .int .i64 0, .int .i64 0, .int .i64 0] (G - n)) 24 (0, 0)) := heap_alloc_at _ _ _ rfl
      refine ⟨?_, frozen_of_row _ _ _ _ _ hh⟩
      rw [cell_of_row _ _ _ _ _ _ hh]
      rw [Array.getElem?_eq_getElem (by simp [zeroCells_size5]; omega)]
      rfl
    have HOW := Lib.hid how
    have HB : Hid (Below w.heap.size w (w.drew.alloc (.cells (#[] ++ Builtin.zeroCells #[.int .i64 0, .int .i64 0, .int .i64 0, .int .i64 0, .int .i64 0] n ++ Builtin.zeroCells #[.int .i64 0, .int .i64 0, .int .i64 0, .int .i64 0, .int .i64 0] (G - n)) 24))) := ((Below.refl _ w).drew).alloc (Nat.le_refl _) _
    clear hi hz0 hz1 hz2 i0 how
    obtain ⟨W, hW⟩ : ∃ W, W = (w.drew.alloc (.cells (#[] ++ Builtin.zeroCells #[.int .i64 0, .int .i64 0, .int .i64 0, .int .i64 0, .int .i64 0] n ++ Builtin.zeroCells #[.int .i64 0, .int .i64 0, .int .i64 0, .int .i64 0, .int .i64 0] (G - n)) 24)) := ⟨_, rfl⟩
    rw [← hW] at HOW HB
    simp only [← hW] at hrz
    clear hW
    have hz := Lib.hid hrz
    clear hrz
    go_enter Try.func126, Try.ntmps126
    go_wp2_with (at_builtin; refine Lib.wpList_append_run _ rfl _ _ _ _ rfl _ _ rfl rfl _ _ (hz.out _) ?_)
    go_ret
    exact ⟨_, rfl, HOW.out, HB.out⟩


set_option maxHeartbeats 2000000 in
set_option maxRecDepth 100000 in
theorem concatA (bo : Nat) (s1 s2 : Value) (n1 n2 : Nat) (l1 l2 : List Value) (hb : n1 + n2 ≤ 4096) (ho1 : ∀ u ∈ l1, u.oneCell' = true) (ho2 : ∀ u ∈ l2, u.oneCell' = true) (w : World)
    (hbo : w.heap[bo]? = some (.cells #[s1, s2] 22 (0, 0))) (h1 : Src w s1 n1 5 l1) (h2 : Src w s2 n2 5 l2) :
    Calls Try.prog 108 #[.slice (some ⟨bo, 0, none⟩) 2 2] w fun e w' => ∃ v, e = .returned v ∧ Owns w' w.heap.size 5 v (n1 + n2) (l1 ++ l2) ∧ Below w.heap.size w w' := by
  have hg0 := growA_nil (n1 + n2) (by omega)
  rw [show ((n1 + n2 : Nat) : Int) = (n1 : Int) + n2 by omega] at hg0
  have hg := Lib.hid hg0
  clear hg0
  obtain ⟨p1, c1, rfl, hl1, hz1, hs1⟩ := h1
  obtain ⟨p2, c2, rfl, hl2, hz2, hs2⟩ := h2
  have hblt := lt_of_heap hbo
  have a0 : w.cell? ⟨bo, 0, none⟩ = some (.slice p1 n1 c1) := by rw [cell_of_row _ _ _ _ _ _ hbo]; rfl
  have a1 : w.cell? ⟨bo, 1, none⟩ = some (.slice p2 n2 c2) := by rw [cell_of_row _ _ _ _ _ _ hbo]; rfl
  have HS1 : Hid (Src w (.slice p1 n1 c1) n1 5 l1) := ⟨p1, c1, rfl, hl1, hz1, hs1⟩
  have HS2 : Hid (Src w (.slice p2 n2 c2) n2 5 l2) := ⟨p2, c2, rfl, hl2, hz2, hs2⟩
  have HBO := Lib.hid hbo
  have HO1 := Lib.hid ho1
  have HO2 := Lib.hid ho2
  have HL1 := Lib.hid hl1
  have HL2 := Lib.hid hl2
  clear hl1 hz1 hs1 hl2 hz2 hs2 hbo ho1 ho2
  go_enter Try.func108, Try.ntmps108
  go_wp2
  go_loop [3, 11] (fun s i => ∃ k : Nat, k ≤ 2 ∧ i = .int .i64 k ∧ s = .int .i64 (sum2 n1 n2 k)) (fun _ i => 2 - (intOf i).toNat)
  case atStart => exact ⟨0, by omega, rfl, rfl⟩
  case round =>
    obtain ⟨k, hk, rfl, rfl⟩ := hrel
    obtain rfl | rfl | rfl : k = 0 ∨ k = 1 ∨ k = 2 := by omega
    · have e0 : sum2 n1 n2 0 = 0 := rfl
      rw [e0]
      clear hk
      go_wp2
      exact ⟨⟨1, by omega, by go_num, by rfl⟩, by simp [intOf]⟩
    · have e0 : sum2 n1 n2 1 = n1 := rfl
      rw [e0]
      clear hk
      go_wp2
      exact ⟨⟨2, by omega, by go_num, by rfl⟩, by simp [intOf]⟩
    · have e0 : sum2 n1 n2 2 = n1 + n2 := rfl
      rw [e0]
      clear hk e0
      go_wp2_with fail
      (with_reducible refine (hg.out _).mono ?_)
      rintro e w1 ⟨v, rfl, hO, hB⟩
      have HO := Lib.hid hO
      have HB := Lib.hid hB
      clear hO hB
      go_wp2
      go_loopw [6, 27] (fun u i wr => ∃ k : Nat, k ≤ 2 ∧ i = .int .i64 k ∧ Owns wr w.heap.size 5 u (sum2 n1 n2 k) (cat2 l1 l2 k) ∧ Below w.heap.size w wr) (fun _ i _ => 2 - (intOf i).toNat)
      case atStart => exact ⟨0, by omega, rfl, HO.out, HB.out⟩
      case round =>
        obtain ⟨k, hk, rfl, hO, hB⟩ := hrel
        have O := Lib.hid hO
        have BB := Lib.hid hB
        obtain rfl | rfl | rfl : k = 0 ∨ k = 1 ∨ k = 2 := by omega
        · have b0 : wr.cell? ⟨bo, 0, none⟩ = some (.slice p1 n1 c1) := (hB.cell (p := ⟨bo, 0, none⟩) hblt).trans a0
          have S1 := HS1.out.below hB
          obtain ⟨p', c', e', _, hz1, hs1⟩ := S1
          obtain ⟨rfl, rfl⟩ : p' = p1 ∧ c' = c1 := by simp at e'; exact ⟨e'.1.symm, e'.2.symm⟩
          have HN := Lib.hid hz1
          have HC := Lib.hid (fun ad h => (hs1 ad h).2)
          clear hO hB hk hz1 hs1 e'
          go_wp2_with (at_builtin; refine wpList_append_any2 rfl _ _ 22 rfl w.heap.size 24 (.agg #[.int .i64 0, .int .i64 0, .int .i64 0, .int .i64 0, .int .i64 0]) 5 40 Try.underlying22 advInfo rfl (by decide) _ _ _ rfl O.out _ _ _ l1 rfl (by rw [HL1.out]) HN.out HC.out HO1.out (by unfold maxLen; simp [sum2]; omega) (by simp [sum2]; omega) BB.out.size ?_; intro u1 x1 ha1 hg1 hw1)
          exact ⟨⟨1, by omega, by go_num, by simpa [sum2, cat2] using ha1, BB.out.grown hg1 BB.out.size (fun k hk => (O.out.lt k hk).1)⟩, by simp [intOf]⟩
        · have b0 : wr.cell? ⟨bo, 1, none⟩ = some (.slice p2 n2 c2) := (hB.cell (p := ⟨bo, 1, none⟩) hblt).trans a1
          have S1 := HS2.out.below hB
          obtain ⟨p', c', e', _, hz1, hs1⟩ := S1
          obtain ⟨rfl, rfl⟩ : p' = p2 ∧ c' = c2 := by simp at e'; exact ⟨e'.1.symm, e'.2.symm⟩
          have HN := Lib.hid hz1
          have HC := Lib.hid (fun ad h => (hs1 ad h).2)
          clear hO hB hk hz1 hs1 e'
          go_wp2_with (at_builtin; refine wpList_append_any2 rfl _ _ 22 rfl w.heap.size 24 (.agg #[.int .i64 0, .int .i64 0, .int .i64 0, .int .i64 0, .int .i64 0]) 5 40 Try.underlying22 advInfo rfl (by decide) _ _ _ rfl O.out _ _ _ l2 rfl (by rw [HL2.out]) HN.out HC.out HO2.out (by unfold maxLen; simp [sum2]; omega) (by simp [sum2]; omega) BB.out.size ?_; intro u1 x1 ha1 hg1 hw1)
          exact ⟨⟨2, by omega, by go_num, by simpa [sum2, cat2] using ha1, BB.out.grown hg1 BB.out.size (fun k hk => (O.out.lt k hk).1)⟩, by simp [intOf]⟩
        · clear hO hB
          go_wp2
          go_ret
          exact ⟨_, rfl, O.out, BB.out⟩
theorem Owns.src5 {w : World} {B n : Nat} {g cap : Nat} {xs : List Value} (h : Owns w B 5 (.slice (some ⟨g, 0, none⟩) n cap) n xs) (first : Nat) (hf : first ≤ n) :
    Src w (.slice (some ⟨g, first * 5, none⟩) (n - first) (cap - first)) (n - first) 5 (xs.drop (first * 5)) ∧ Src w (.slice (some ⟨g, 0, none⟩) first cap) first 5 (xs.take (first * 5)) := by
  obtain ⟨hl, h⟩ := h
  rcases h with ⟨h1, _⟩ | ⟨g', cap', h1, h2, h3, h4, h5, h6⟩
  · simp at h1
  · simp only [Value.slice.injEq, Option.some.injEq, Addr.mk.injEq, and_true, true_and] at h1
    obtain ⟨rfl, rfl⟩ := h1
    refine ⟨⟨_, _, rfl, by rw [List.length_drop]; omega, by simp, fun ad had => ?_⟩, ⟨_, _, rfl, by rw [List.length_take]; omega, by simp, fun ad had => ?_⟩⟩
    · obtain rfl : ad = ⟨g, first * 5, none⟩ := by simpa using had.symm
      refine ⟨h3, fun j u hu => ?_⟩
      rw [List.getElem?_drop] at hu
      rw [Addr.add_mid]
      exact h5 _ _ hu
    · obtain rfl : ad = ⟨g, 0, none⟩ := by simpa using had.symm
      refine ⟨h3, fun j u hu => ?_⟩
      have hj : j < first * 5 := by have := (List.getElem?_eq_some_iff.1 hu).1; rw [List.length_take] at this; omega
      rw [List.getElem?_take_of_lt hj] at hu
      rw [Addr.add_mid, Nat.zero_add]
      exact h5 _ _ hu

set_option maxHeartbeats 2000000 in
set_option maxRecDepth 100000 in
theorem ringA_all_nil (w : World) : Calls Try.prog 80 #[.pointer none] w (AllOf 109 22 w 0 5 []) := by
  go_enter Try.func80, Try.ntmps80
  go_wp2
  go_ret
  exact ⟨w.heap.size, _, rfl, Nat.le_refl _, (by first | (with_reducible exact heap_1_0 _ _) | (with_reducible exact heap_2_0 _ _ _) | (with_reducible exact heap_2_1 _ _ _) | (with_reducible exact heap_3_0 _ _ _ _) | (with_reducible exact heap_3_1 _ _ _ _) | (with_reducible exact heap_3_2 _ _ _ _) | (with_reducible exact heap_4_0 _ _ _ _ _) | (with_reducible exact heap_4_1 _ _ _ _ _) | (with_reducible exact heap_4_2 _ _ _ _ _) | (with_reducible exact heap_4_3 _ _ _ _ _) | (with_reducible exact heap_5_0 _ _ _ _ _ _) | (with_reducible exact heap_5_1 _ _ _ _ _ _) | (with_reducible exact heap_5_2 _ _ _ _ _ _) | (with_reducible exact heap_5_3 _ _ _ _ _ _) | (with_reducible exact heap_5_4 _ _ _ _ _ _) | (with_reducible exact heap_6_0 _ _ _ _ _ _ _) | (with_reducible exact heap_6_1 _ _ _ _ _ _ _) | (with_reducible exact heap_6_2 _ _ _ _ _ _ _) | (with_reducible exact heap_6_3 _ _ _ _ _ _ _) | (with_reducible exact heap_6_4 _ _ _ _ _ _ _) | (with_reducible exact heap_6_5 _ _ _ _ _ _ _) | simp only [heap_alloc_past, heap_alloc_at, World.size_alloc, Nat.add_assoc, Nat.reduceAdd, Nat.lt_add_right_iff_pos, Nat.add_lt_add_iff_left, Nat.reduceLT, Nat.zero_lt_succ, Nat.lt_add_one]), owns_nil _ _ _, below1 _ _⟩

set_option maxHeartbeats 2000000 in
set_option maxRecDepth 100000 in
theorem ringA_all_some {w : World} {B r g cap : Nat} {room first n : Nat} {xs : List Value} (h : RingAt 105 5 w B r (.slice (some ⟨g, 0, none⟩) n cap) room first n xs) (hn : n ≤ 4096) (hf : first < n) (hcap : n ≤ cap) (h1 : ∀ u ∈ xs, u.oneCell' = true) :
    Calls Try.prog 80 #[.pointer (some ⟨r, 0, none⟩)] w (AllOf 109 22 w n 5 (rot (first * 5) xs)) := by
  have H := Lib.hid h
  have H1 := Lib.hid h1
  have hst := stab_and (stab_and (stab_ring (TR := 105) (sz := 5) (B := B) (r := r) (v := .slice (some ⟨g, 0, none⟩) n cap) (room := room) (first := first) (n := n) (xs := xs)) (stab_heap w.heap.size (.cells #[.slice none 0 0] 22 (0, 0)))) (stab_below (B := w.heap.size) (w0 := w) (Nat.le_refl _))
  clear h h1
  go_enter Try.func80, Try.ntmps80
  go_wp2
  refine wp_region_E mixed [20] hst ⟨⟨(H.out.below (below1 _ _)).same (Nat.le_refl _) rfl (fun _ _ => rfl), heap_alloc_at _ _ _ rfl⟩, below_drew (below1 _ _)⟩ ?_
  refine wpAnyE_take 0 rfl (by kernel_rfl) (by kernel_rfl) (by kernel_rfl) (fun _ _ _ h => h) hst (EffB.pure rfl (fun _ => rfl)) (.inr (EffB.pure rfl (fun _ => rfl))) ?_
  simp only [act_norm]
  refine wpAnyE_take 1 (v := .pointer (some ⟨r, 0, none⟩)) rfl (by kernel_rfl) (by kernel_rfl) (by kernel_rfl) (fun _ _ _ h => h) hst (EffB.run rfl rfl (fun wd hS => ?_)) (.inr (EffB.run rfl rfl (fun wd hS => ?_))) ?_
  · (go_wp2; exact ⟨rfl, Below.refl _ _⟩)
  · (go_wp2; exact ⟨rfl, Below.refl _ _⟩)
  simp only [act_norm]
  refine wpAnyE_take 2 (v := .pointer (some ⟨r, 2, none⟩)) rfl (by kernel_rfl) (by kernel_rfl) (by kernel_rfl) (fun _ _ _ h => h) hst (EffB.run rfl rfl (fun wd hS => ?_)) (.inr (EffB.run rfl rfl (fun wd hS => ?_))) ?_
  · (go_wp2; exact ⟨rfl, Below.refl _ _⟩)
  · (go_wp2; exact ⟨rfl, Below.refl _ _⟩)
  simp only [act_norm]
  refine wpAnyE_take 3 (v := .slice (some ⟨g, 0, none⟩) n cap) rfl (by kernel_rfl) (by kernel_rfl) (by kernel_rfl) (fun _ _ _ h => h) hst (EffB.run rfl rfl (fun wd hS => ?_)) (.inl (by kernel_rfl)) ?_
  · (have c2 : wd.cell? ⟨r, 2, none⟩ = some (.slice (some ⟨g, 0, none⟩) n cap) := by rw [cell_of_row _ _ _ _ _ _ (hS.1.1.row)]; rfl); go_wp2; exact ⟨rfl, Below.refl _ _⟩
  simp only [act_norm]
  refine wpAnyE_take 4 rfl (by kernel_rfl) (by kernel_rfl) (by kernel_rfl) (fun _ _ _ h => h) hst (EffB.pure rfl (fun _ => rfl)) (.inr (EffB.pure rfl (fun _ => rfl))) ?_
  simp only [act_norm]
  refine wpAnyE_take 5 (v := .pointer (some ⟨r, 0, none⟩)) rfl (by kernel_rfl) (by kernel_rfl) (by kernel_rfl) (fun _ _ _ h => h) hst (EffB.run rfl rfl (fun wd hS => ?_)) (.inr (EffB.run rfl rfl (fun wd hS => ?_))) ?_
  · (go_wp2; exact ⟨rfl, Below.refl _ _⟩)
  · (go_wp2; exact ⟨rfl, Below.refl _ _⟩)
  simp only [act_norm]
  refine wpAnyE_take 6 (v := .pointer (some ⟨r, 1, none⟩)) rfl (by kernel_rfl) (by kernel_rfl) (by kernel_rfl) (fun _ _ _ h => h) hst (EffB.run rfl rfl (fun wd hS => ?_)) (.inr (EffB.run rfl rfl (fun wd hS => ?_))) ?_
  · (go_wp2; exact ⟨rfl, Below.refl _ _⟩)
  · (go_wp2; exact ⟨rfl, Below.refl _ _⟩)
  simp only [act_norm]
  refine wpAnyE_take 7 (v := .int .i64 first) rfl (by kernel_rfl) (by kernel_rfl) (by kernel_rfl) (fun _ _ _ h => h) hst (EffB.run rfl rfl (fun wd hS => ?_)) (.inl (by kernel_rfl)) ?_
  · (have c2 : wd.cell? ⟨r, 1, none⟩ = some (.int .i64 first) := by rw [cell_of_row _ _ _ _ _ _ (hS.1.1.row)]; rfl); go_wp2; exact ⟨rfl, Below.refl _ _⟩
  simp only [act_norm]
  refine wpAnyE_take 8 (v := .slice (some ⟨g, first * 5, none⟩) (n - first) (cap - first)) rfl (by kernel_rfl) (by kernel_rfl) (by kernel_rfl) (fun _ _ _ h => h) hst (EffB.run rfl rfl (fun wd hS => ?_)) (.inr (EffB.run rfl rfl (fun wd hS => ?_))) ?_
  · (go_wp2; exact ⟨rfl, Below.refl _ _⟩)
  · (go_wp2; exact ⟨rfl, Below.refl _ _⟩)
  simp only [act_norm]
  refine wpAnyE_take 9 rfl (by kernel_rfl) (by kernel_rfl) (by kernel_rfl) (fun _ _ _ h => h) hst (EffB.pure rfl (fun _ => rfl)) (.inr (EffB.pure rfl (fun _ => rfl))) ?_
  simp only [act_norm]
  refine wpAnyE_take 10 (v := .pointer (some ⟨r, 0, none⟩)) rfl (by kernel_rfl) (by kernel_rfl) (by kernel_rfl) (fun _ _ _ h => h) hst (EffB.run rfl rfl (fun wd hS => ?_)) (.inr (EffB.run rfl rfl (fun wd hS => ?_))) ?_
  · (go_wp2; exact ⟨rfl, Below.refl _ _⟩)
  · (go_wp2; exact ⟨rfl, Below.refl _ _⟩)
  simp only [act_norm]
  refine wpAnyE_take 11 (v := .pointer (some ⟨r, 2, none⟩)) rfl (by kernel_rfl) (by kernel_rfl) (by kernel_rfl) (fun _ _ _ h => h) hst (EffB.run rfl rfl (fun wd hS => ?_)) (.inr (EffB.run rfl rfl (fun wd hS => ?_))) ?_
  · (go_wp2; exact ⟨rfl, Below.refl _ _⟩)
  · (go_wp2; exact ⟨rfl, Below.refl _ _⟩)
  simp only [act_norm]
  refine wpAnyE_take 12 (v := .slice (some ⟨g, 0, none⟩) n cap) rfl (by kernel_rfl) (by kernel_rfl) (by kernel_rfl) (fun _ _ _ h => h) hst (EffB.run rfl rfl (fun wd hS => ?_)) (.inl (by kernel_rfl)) ?_
  · (have c2 : wd.cell? ⟨r, 2, none⟩ = some (.slice (some ⟨g, 0, none⟩) n cap) := by rw [cell_of_row _ _ _ _ _ _ (hS.1.1.row)]; rfl); go_wp2; exact ⟨rfl, Below.refl _ _⟩
  simp only [act_norm]
  refine wpAnyE_take 13 rfl (by kernel_rfl) (by kernel_rfl) (by kernel_rfl) (fun _ _ _ h => h) hst (EffB.pure rfl (fun _ => rfl)) (.inr (EffB.pure rfl (fun _ => rfl))) ?_
  simp only [act_norm]
  refine wpAnyE_take 14 (v := .pointer (some ⟨r, 0, none⟩)) rfl (by kernel_rfl) (by kernel_rfl) (by kernel_rfl) (fun _ _ _ h => h) hst (EffB.run rfl rfl (fun wd hS => ?_)) (.inr (EffB.run rfl rfl (fun wd hS => ?_))) ?_
  · (go_wp2; exact ⟨rfl, Below.refl _ _⟩)
  · (go_wp2; exact ⟨rfl, Below.refl _ _⟩)
  simp only [act_norm]
  refine wpAnyE_take 15 (v := .pointer (some ⟨r, 1, none⟩)) rfl (by kernel_rfl) (by kernel_rfl) (by kernel_rfl) (fun _ _ _ h => h) hst (EffB.run rfl rfl (fun wd hS => ?_)) (.inr (EffB.run rfl rfl (fun wd hS => ?_))) ?_
  · (go_wp2; exact ⟨rfl, Below.refl _ _⟩)
  · (go_wp2; exact ⟨rfl, Below.refl _ _⟩)
  simp only [act_norm]
  refine wpAnyE_take 16 (v := .int .i64 first) rfl (by kernel_rfl) (by kernel_rfl) (by kernel_rfl) (fun _ _ _ h => h) hst (EffB.run rfl rfl (fun wd hS => ?_)) (.inl (by kernel_rfl)) ?_
  · (have c2 : wd.cell? ⟨r, 1, none⟩ = some (.int .i64 first) := by rw [cell_of_row _ _ _ _ _ _ (hS.1.1.row)]; rfl); go_wp2; exact ⟨rfl, Below.refl _ _⟩
  simp only [act_norm]
  refine wpAnyE_take 17 (v := .slice (some ⟨g, 0, none⟩) first cap) rfl (by kernel_rfl) (by kernel_rfl) (by kernel_rfl) (fun _ _ _ h => h) hst (EffB.run rfl rfl (fun wd hS => ?_)) (.inr (EffB.run rfl rfl (fun wd hS => ?_))) ?_
  · (go_wp2; exact ⟨rfl, Below.refl _ _⟩)
  · (go_wp2; exact ⟨rfl, Below.refl _ _⟩)
  simp only [act_norm]
  refine wpAnyE_one 18 rfl (by kernel_rfl) rfl (fun wd hS => ?_)
  have hso := Owns.src5 hS.1.1.owns first (by omega)
  have hst2 := stab_and (stab_and (stab_and hst (stab_heap wd.heap.size (.cells #[.slice (some ⟨g, first * 5, none⟩) (n - first) (cap - first), .slice (some ⟨g, 0, none⟩) first cap] 22 (0, 0)))) (stab_src (s := .slice (some ⟨g, first * 5, none⟩) (n - first) (cap - first)) (n := n - first) (sz := 5) (xs := xs.drop (first * 5)))) (stab_src (s := .slice (some ⟨g, 0, none⟩) first cap) (n := first) (sz := 5) (xs := xs.take (first * 5)))
  have X1 : Hid (((((RingAt 105 5 (wd.alloc (.cells #[.slice (some ⟨g, first * 5, none⟩) (n - first) (cap - first), .slice (some ⟨g, 0, none⟩) first cap] 22)) B r (.slice (some ⟨g, 0, none⟩) n cap) room first n xs ∧ (wd.alloc (.cells #[.slice (some ⟨g, first * 5, none⟩) (n - first) (cap - first), .slice (some ⟨g, 0, none⟩) first cap] 22)).heap[w.heap.size]? = some (.cells #[.slice none 0 0] 22 (0, 0))) ∧ Below w.heap.size w (wd.alloc (.cells #[.slice (some ⟨g, first * 5, none⟩) (n - first) (cap - first), .slice (some ⟨g, 0, none⟩) first cap] 22)))
    ∧ (wd.alloc (.cells #[.slice (some ⟨g, first * 5, none⟩) (n - first) (cap - first), .slice (some ⟨g, 0, none⟩) first cap] 22)).heap[wd.heap.size]? = some (.cells #[.slice (some ⟨g, first * 5, none⟩) (n - first) (cap - first), .slice (some ⟨g, 0, none⟩) first cap] 22 (0, 0)))
    ∧ Src (wd.alloc (.cells #[.slice (some ⟨g, first * 5, none⟩) (n - first) (cap - first), .slice (some ⟨g, 0, none⟩) first cap] 22)) (.slice (some ⟨g, first * 5, none⟩) (n - first) (cap - first)) (n - first) 5 (xs.drop (first * 5)))
    ∧ Src (wd.alloc (.cells #[.slice (some ⟨g, first * 5, none⟩) (n - first) (cap - first), .slice (some ⟨g, 0, none⟩) first cap] 22)) (.slice (some ⟨g, 0, none⟩) first cap) first 5 (xs.take (first * 5))) := ⟨⟨⟨hst _ _ hS (below1 _ _), heap_alloc_at _ _ _ rfl⟩, hso.1.below (below1 _ _)⟩, hso.2.below (below1 _ _)⟩
  clear hS hso
  go_wp2
  refine ⟨_, X1.out, hst2, fun _ h => h.1.1.1, ?_⟩
  obtain ⟨X, hX⟩ : ∃ X, wd.heap.size = X := ⟨_, rfl⟩
  rw [hX] at hst2 ⊢
  clear X1 hst hX
  try simp only [act_norm]
  refine wpAnyE_one 19 rfl (by kernel_rfl) rfl (fun wd2 hS => ?_)
  go_wp2_with fail
  (with_reducible refine (concatA X _ _ (n - first) first (xs.drop (first * 5)) (xs.take (first * 5)) (by omega) (fun u hu => H1.out u (List.mem_of_mem_drop hu)) (fun u hu => H1.out u (List.mem_of_mem_take hu)) wd2 hS.1.1.2 hS.1.2 hS.2).mono ?_)
  rintro e w5 ⟨u, rfl, hO, hb5⟩
  rw [Nat.sub_add_cancel (by omega)] at hO
  have hO2 : Owns w5 (w.heap.size + 1) 5 u n (rot (first * 5) xs) := hO.mono (lt_of_heap hS.1.1.1.1.2)
  obtain ⟨pu, cu, rfl, _⟩ := hO.sl
  have hst3 := stab_and hst2 (stab_owns (B := w.heap.size + 1) (sz := 5) (v := .slice pu n cu) (n := n) (xs := rot (first * 5) xs))
  refine ⟨_, ⟨hst2 _ _ hS hb5, hO2⟩, hst3, (by first | exact fun _ h => h.1 | exact .inr fun _ h => h.1), ?_⟩
  clear hS hO hO2 hb5 hst2
  try simp only [act_norm]
  refine wpAnyE_one 20 rfl (by kernel_rfl) rfl (fun wd3 hS => ?_)
  have k1 := hS.1.1.1.1.1.2
  have c1 : wd3.cell? ⟨w.heap.size, 0, none⟩ = some (.slice none 0 0) := by rw [cell_of_row _ _ _ _ _ _ k1]; rfl
  have g1 := frozen_of_row _ _ 0 _ _ k1
  have k2 : (wd3.setCell ⟨w.heap.size, 0, none⟩ (.slice pu n cu)).heap[w.heap.size]? = some (.cells #[.slice pu n cu] 22 (0, 0)) := by rw [heap_setCell_same _ _ _ _ _ _ k1]; rfl
  have o2 : Owns (wd3.setCell ⟨w.heap.size, 0, none⟩ (.slice pu n cu)) (w.heap.size + 1) 5 (.slice pu n cu) n (rot (first * 5) xs) := hS.2.setOther _ (fun e => by have := (hS.2.lt _ e).1; omega)
  have b2 : Below w.heap.size w (wd3.setCell ⟨w.heap.size, 0, none⟩ (.slice pu n cu)) := hS.1.1.1.1.2.setCell (Nat.le_refl _) _
  have X2 := Lib.hid (And.intro (And.intro k2 o2) b2)
  clear hS k1 k2 o2 b2 hst3
  go_wp2
  refine ⟨_, X2.out, stab_and (stab_and (stab_heap _ _) stab_owns) (stab_below (Nat.le_refl _)), ?_⟩
  try simp only [act_norm]
  clear X2 c1 g1
  refine wpAnyE_done (by kernel_rfl) (fun wd4 hS => ?_) _
  go_wp2
  go_ret
  exact ⟨w.heap.size, _, rfl, Nat.le_refl _, hS.1.1, hS.1.2, hS.2⟩

set_option maxHeartbeats 2000000 in
set_option maxRecDepth 100000 in
theorem ringA_all_zero {w : World} {B r : Nat} {room first : Nat} (h : RingAt 105 5 w B r (.slice none 0 0) room first 0 []) (hf : first = 0) :
    Calls Try.prog 80 #[.pointer (some ⟨r, 0, none⟩)] w (AllOf 109 22 w 0 5 []) := by
  subst hf
  have H := Lib.hid h
  have hst := stab_and (stab_and (stab_ring (TR := 105) (sz := 5) (B := B) (r := r) (v := .slice none 0 0) (room := room) (first := 0) (n := 0) (xs := [])) (stab_heap w.heap.size (.cells #[.slice none 0 0] 22 (0, 0)))) (stab_below (B := w.heap.size) (w0 := w) (Nat.le_refl _))
  clear h
  go_enter Try.func80, Try.ntmps80
  go_wp2
  refine wp_region_E mixed [20] hst ⟨⟨(H.out.below (below1 _ _)).same (Nat.le_refl _) rfl (fun _ _ => rfl), heap_alloc_at _ _ _ rfl⟩, below_drew (below1 _ _)⟩ ?_
  refine wpAnyE_take 0 rfl (by kernel_rfl) (by kernel_rfl) (by kernel_rfl) (fun _ _ _ h => h) hst (EffB.pure rfl (fun _ => rfl)) (.inr (EffB.pure rfl (fun _ => rfl))) ?_
  simp only [act_norm]
  refine wpAnyE_take 1 (v := .pointer (some ⟨r, 0, none⟩)) rfl (by kernel_rfl) (by kernel_rfl) (by kernel_rfl) (fun _ _ _ h => h) hst (EffB.run rfl rfl (fun wd hS => ?_)) (.inr (EffB.run rfl rfl (fun wd hS => ?_))) ?_
  · (go_wp2; exact ⟨rfl, Below.refl _ _⟩)
  · (go_wp2; exact ⟨rfl, Below.refl _ _⟩)
  simp only [act_norm]
  refine wpAnyE_take 2 (v := .pointer (some ⟨r, 2, none⟩)) rfl (by kernel_rfl) (by kernel_rfl) (by kernel_rfl) (fun _ _ _ h => h) hst (EffB.run rfl rfl (fun wd hS => ?_)) (.inr (EffB.run rfl rfl (fun wd hS => ?_))) ?_
  · (go_wp2; exact ⟨rfl, Below.refl _ _⟩)
  · (go_wp2; exact ⟨rfl, Below.refl _ _⟩)
  simp only [act_norm]
  refine wpAnyE_take 3 (v := .slice none 0 0) rfl (by kernel_rfl) (by kernel_rfl) (by kernel_rfl) (fun _ _ _ h => h) hst (EffB.run rfl rfl (fun wd hS => ?_)) (.inl (by kernel_rfl)) ?_
  · (have c2 : wd.cell? ⟨r, 2, none⟩ = some (.slice none 0 0) := by rw [cell_of_row _ _ _ _ _ _ (hS.1.1.row)]; rfl); go_wp2; exact ⟨rfl, Below.refl _ _⟩
  simp only [act_norm]
  refine wpAnyE_take 4 rfl (by kernel_rfl) (by kernel_rfl) (by kernel_rfl) (fun _ _ _ h => h) hst (EffB.pure rfl (fun _ => rfl)) (.inr (EffB.pure rfl (fun _ => rfl))) ?_
  simp only [act_norm]
  refine wpAnyE_take 5 (v := .pointer (some ⟨r, 0, none⟩)) rfl (by kernel_rfl) (by kernel_rfl) (by kernel_rfl) (fun _ _ _ h => h) hst (EffB.run rfl rfl (fun wd hS => ?_)) (.inr (EffB.run rfl rfl (fun wd hS => ?_))) ?_
  · (go_wp2; exact ⟨rfl, Below.refl _ _⟩)
  · (go_wp2; exact ⟨rfl, Below.refl _ _⟩)
  simp only [act_norm]
  refine wpAnyE_take 6 (v := .pointer (some ⟨r, 1, none⟩)) rfl (by kernel_rfl) (by kernel_rfl) (by kernel_rfl) (fun _ _ _ h => h) hst (EffB.run rfl rfl (fun wd hS => ?_)) (.inr (EffB.run rfl rfl (fun wd hS => ?_))) ?_
  · (go_wp2; exact ⟨rfl, Below.refl _ _⟩)
  · (go_wp2; exact ⟨rfl, Below.refl _ _⟩)
  simp only [act_norm]
  refine wpAnyE_take 7 (v := .int .i64 0) rfl (by kernel_rfl) (by kernel_rfl) (by kernel_rfl) (fun _ _ _ h => h) hst (EffB.run rfl rfl (fun wd hS => ?_)) (.inl (by kernel_rfl)) ?_
  · (have c2 : wd.cell? ⟨r, 1, none⟩ = some (.int .i64 0) := by rw [cell_of_row _ _ _ _ _ _ (hS.1.1.row)]; rfl); go_wp2; exact ⟨rfl, Below.refl _ _⟩
  simp only [act_norm]
  refine wpAnyE_take 8 (v := .slice none 0 0) rfl (by kernel_rfl) (by kernel_rfl) (by kernel_rfl) (fun _ _ _ h => h) hst (EffB.run rfl rfl (fun wd hS => ?_)) (.inr (EffB.run rfl rfl (fun wd hS => ?_))) ?_
  · (go_wp2; exact ⟨rfl, Below.refl _ _⟩)
  · (go_wp2; exact ⟨rfl, Below.refl _ _⟩)
  simp only [act_norm]
  refine wpAnyE_take 9 rfl (by kernel_rfl) (by kernel_rfl) (by kernel_rfl) (fun _ _ _ h => h) hst (EffB.pure rfl (fun _ => rfl)) (.inr (EffB.pure rfl (fun _ => rfl))) ?_
  simp only [act_norm]
  refine wpAnyE_take 10 (v := .pointer (some ⟨r, 0, none⟩)) rfl (by kernel_rfl) (by kernel_rfl) (by kernel_rfl) (fun _ _ _ h => h) hst (EffB.run rfl rfl (fun wd hS => ?_)) (.inr (EffB.run rfl rfl (fun wd hS => ?_))) ?_
  · (go_wp2; exact ⟨rfl, Below.refl _ _⟩)
  · (go_wp2; exact ⟨rfl, Below.refl _ _⟩)
  simp only [act_norm]
  refine wpAnyE_take 11 (v := .pointer (some ⟨r, 2, none⟩)) rfl (by kernel_rfl) (by kernel_rfl) (by kernel_rfl) (fun _ _ _ h => h) hst (EffB.run rfl rfl (fun wd hS => ?_)) (.inr (EffB.run rfl rfl (fun wd hS => ?_))) ?_
  · (go_wp2; exact ⟨rfl, Below.refl _ _⟩)
  · (go_wp2; exact ⟨rfl, Below.refl _ _⟩)
  simp only [act_norm]
  refine wpAnyE_take 12 (v := .slice none 0 0) rfl (by kernel_rfl) (by kernel_rfl) (by kernel_rfl) (fun _ _ _ h => h) hst (EffB.run rfl rfl (fun wd hS => ?_)) (.inl (by kernel_rfl)) ?_
  · (have c2 : wd.cell? ⟨r, 2, none⟩ = some (.slice none 0 0) := by rw [cell_of_row _ _ _ _ _ _ (hS.1.1.row)]; rfl); go_wp2; exact ⟨rfl, Below.refl _ _⟩
  simp only [act_norm]
  refine wpAnyE_take 13 rfl (by kernel_rfl) (by kernel_rfl) (by kernel_rfl) (fun _ _ _ h => h) hst (EffB.pure rfl (fun _ => rfl)) (.inr (EffB.pure rfl (fun _ => rfl))) ?_
  simp only [act_norm]
  refine wpAnyE_take 14 (v := .pointer (some ⟨r, 0, none⟩)) rfl (by kernel_rfl) (by kernel_rfl) (by kernel_rfl) (fun _ _ _ h => h) hst (EffB.run rfl rfl (fun wd hS => ?_)) (.inr (EffB.run rfl rfl (fun wd hS => ?_))) ?_
  · (go_wp2; exact ⟨rfl, Below.refl _ _⟩)
  · (go_wp2; exact ⟨rfl, Below.refl _ _⟩)
  simp only [act_norm]
  refine wpAnyE_take 15 (v := .pointer (some ⟨r, 1, none⟩)) rfl (by kernel_rfl) (by kernel_rfl) (by kernel_rfl) (fun _ _ _ h => h) hst (EffB.run rfl rfl (fun wd hS => ?_)) (.inr (EffB.run rfl rfl (fun wd hS => ?_))) ?_
  · (go_wp2; exact ⟨rfl, Below.refl _ _⟩)
  · (go_wp2; exact ⟨rfl, Below.refl _ _⟩)
  simp only [act_norm]
  refine wpAnyE_take 16 (v := .int .i64 0) rfl (by kernel_rfl) (by kernel_rfl) (by kernel_rfl) (fun _ _ _ h => h) hst (EffB.run rfl rfl (fun wd hS => ?_)) (.inl (by kernel_rfl)) ?_
  · (have c2 : wd.cell? ⟨r, 1, none⟩ = some (.int .i64 0) := by rw [cell_of_row _ _ _ _ _ _ (hS.1.1.row)]; rfl); go_wp2; exact ⟨rfl, Below.refl _ _⟩
  simp only [act_norm]
  refine wpAnyE_take 17 (v := .slice none 0 0) rfl (by kernel_rfl) (by kernel_rfl) (by kernel_rfl) (fun _ _ _ h => h) hst (EffB.run rfl rfl (fun wd hS => ?_)) (.inr (EffB.run rfl rfl (fun wd hS => ?_))) ?_
  · (go_wp2; exact ⟨rfl, Below.refl _ _⟩)
  · (go_wp2; exact ⟨rfl, Below.refl _ _⟩)
  simp only [act_norm]
  refine wpAnyE_one 18 rfl (by kernel_rfl) rfl (fun wd hS => ?_)
  have hst2 := stab_and hst (stab_heap wd.heap.size (.cells #[.slice none 0 0, .slice none 0 0] 22 (0, 0)))
  have x1 := hst _ _ hS (below1 wd (.cells #[.slice none 0 0, .slice none 0 0] 22))
  have X1 := Lib.hid (And.intro x1 (heap_alloc_at wd (.cells #[.slice none 0 0, .slice none 0 0] 22) wd.heap.size rfl))
  clear hS x1
  go_wp2
  refine ⟨_, X1.out, hst2, fun _ h => h.1, ?_⟩
  obtain ⟨X, hX⟩ : ∃ X, wd.heap.size = X := ⟨_, rfl⟩
  rw [hX] at hst2 ⊢
  clear X1 hst hX
  try simp only [act_norm]
  refine wpAnyE_one 19 rfl (by kernel_rfl) rfl (fun wd2 hS => ?_)
  go_wp2_with fail
  (with_reducible refine (concatA X _ _ 0 0 [] [] (by omega) (fun u hu => by simp at hu) (fun u hu => by simp at hu) wd2 hS.2 (src_nil _ _) (src_nil _ _)).mono ?_)
  rintro e w5 ⟨u, rfl, hO, hb5⟩
  have hO2 : Owns w5 (w.heap.size + 1) 5 u 0 [] := hO.mono (lt_of_heap hS.1.1.2)
  obtain ⟨pu, cu, rfl, _⟩ := hO2.sl
  have hst3 := stab_and hst2 (stab_owns (B := w.heap.size + 1) (sz := 5) (v := .slice pu 0 cu) (n := 0) (xs := []))
  refine ⟨_, ⟨hst2 _ _ hS hb5, hO2⟩, hst3, (by first | exact fun _ h => h.1 | exact .inr fun _ h => h.1), ?_⟩
  clear hS hO hO2 hb5 hst2
  try simp only [act_norm]
  refine wpAnyE_one 20 rfl (by kernel_rfl) rfl (fun wd3 hS => ?_)
  have k1 := hS.1.1.1.2
  have c1 : wd3.cell? ⟨w.heap.size, 0, none⟩ = some (.slice none 0 0) := by rw [cell_of_row _ _ _ _ _ _ k1]; rfl
  have g1 := frozen_of_row _ _ 0 _ _ k1
  have k2 : (wd3.setCell ⟨w.heap.size, 0, none⟩ (.slice pu 0 cu)).heap[w.heap.size]? = some (.cells #[.slice pu 0 cu] 22 (0, 0)) := by rw [heap_setCell_same _ _ _ _ _ _ k1]; rfl
  have o2 : Owns (wd3.setCell ⟨w.heap.size, 0, none⟩ (.slice pu 0 cu)) (w.heap.size + 1) 5 (.slice pu 0 cu) 0 [] := hS.2.setOther _ (fun e => by have := (hS.2.lt _ e).1; omega)
  have b2 : Below w.heap.size w (wd3.setCell ⟨w.heap.size, 0, none⟩ (.slice pu 0 cu)) := hS.1.1.2.setCell (Nat.le_refl _) _
  have X2 := Lib.hid (And.intro (And.intro k2 o2) b2)
  clear hS k1 k2 o2 b2 hst3
  go_wp2
  refine ⟨_, X2.out, stab_and (stab_and (stab_heap _ _) stab_owns) (stab_below (Nat.le_refl _)), ?_⟩
  try simp only [act_norm]
  clear X2 c1 g1
  refine wpAnyE_done (by kernel_rfl) (fun wd4 hS => ?_) _
  go_wp2
  go_ret
  exact ⟨w.heap.size, _, rfl, Nat.le_refl _, hS.1.1, hS.1.2, hS.2⟩

/-- All things of a ring. -/
theorem ringA_all {w : World} {B r : Nat} {v : Value} {room first n : Nat} {xs : List Value} (h : RingAt 105 5 w B r v room first n xs) (hn : n ≤ 4096) (hf : first < n ∨ first = 0) (h1 : ∀ u ∈ xs, u.oneCell' = true) :
    Calls Try.prog 80 #[.pointer (some ⟨r, 0, none⟩)] w (AllOf 109 22 w n 5 (rot (first * 5) xs)) := by
  by_cases h0 : n = 0
  · subst h0
    obtain rfl : first = 0 := by omega
    obtain rfl := h.void rfl
    obtain rfl : xs = [] := List.eq_nil_of_length_eq_zero (by simpa using h.owns.1)
    exact ringA_all_zero h rfl
  · obtain ⟨g, cap, rfl, _, _, _, hc⟩ := h.slice (by omega)
    exact ringA_all_some h hn (by omega) hc h1
end Go.Proofs.Ytildjnibdappnaa
