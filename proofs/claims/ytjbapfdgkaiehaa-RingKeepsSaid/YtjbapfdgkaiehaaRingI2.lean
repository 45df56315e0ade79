/- Layer 7: slices.Grow and slices.Concat, of ints. -/
import Derived.Test.YtjbapfdgkaiehaaRingI
import Derived.Lib.AppendZerosOnto
namespace Go.Proofs.Ytjbapfdgkaiehaa
open Go.ChangeShapes Go.WideShapes Go.ChangeAt Go.RowKit

/-- A slice that is read: its things' cells. -/
def Src (w : World) (s : Value) (n sz : Nat) (xs : List Value) : Prop :=
  ∃ p c, s = .slice p n c ∧ xs.length = n * sz ∧ (p = none → n = 0 ∧ c = 0) ∧ ∀ ad, p = some ad → ad.block < w.heap.size ∧ ∀ j u, xs[j]? = some u → w.cell? (ad.add j) = some u
theorem Src.below {w w' : World} {s : Value} {n sz : Nat} {xs : List Value} (h : Src w s n sz xs) (hb : Below w.heap.size w w') : Src w' s n sz xs := by
  obtain ⟨p, c, h1, h2, h3, h4⟩ := h
  refine ⟨p, c, h1, h2, h3, fun ad had => ?_⟩
  obtain ⟨h5, h6⟩ := h4 ad had
  refine ⟨Nat.lt_of_lt_of_le h5 hb.size, fun j u hu => ?_⟩
  rw [hb.cell (p := ad.add j) (by unfold Addr.add; split <;> exact h5)]
  exact h6 j u hu
theorem src_nil (w : World) (sz : Nat) : Src w (.slice none 0 0) 0 sz [] := ⟨none, 0, rfl, by simp, fun _ => ⟨rfl, rfl⟩, fun _ h => by cases h⟩
theorem stab_src {s : Value} {n sz : Nat} {xs : List Value} : Stab (fun w' => Src w' s n sz xs) := fun _ _ h hb => h.below hb

theorem zeroCells_size (z : Value) (n : Nat) : (Builtin.zeroCells #[z] n).size = n := by
  unfold Builtin.zeroCells
  simp

set_option maxHeartbeats 1000000 in
set_option maxRecDepth 100000 in
theorem growI_nil (n : Nat) (hn : n ≤ 100000) (w : World) :
    Calls Try.prog 119 #[.slice none 0 0, .int .i64 n] w fun e w' => ∃ v, e = .returned v ∧ Owns w' w.heap.size 1 v 0 [] ∧ Below w.heap.size w w' := by
  by_cases h0 : n = 0
  · subst h0
    go_enter Try.func119, Try.ntmps119
    go_wp2
    go_ret
    exact ⟨_, rfl, owns_nil _ _ _, Below.refl _ _⟩
  · obtain ⟨i0, hi, hz0, hz1, hz2⟩ := info_parts intInfo
    have hrz : ∀ ty, (Builtin.append_ #[48, 3] ty #[.slice none 0 0, .int .i64 n]).run Try.prog w =
        .ok (.slice (some ⟨w.heap.size, 0, none⟩) n (grownCap w n 0 3)) (w.drew.alloc (.cells (#[] ++ Builtin.zeroCells #[.int .i64 0] n ++ Builtin.zeroCells #[.int .i64 0] (grownCap w n 0 3 - n)) 3)) := fun ty => by
      have h := Lib.run_append_grow_zeros (P := Try.prog) w 48 3 ty 3 i0 (.int .i64 0) .i64 .i64 Try.underlying48 Try.underlying3 hi hz0 none 0 0 [] (run_firstCells_none w.drew i0.size 0 0 0) n (by omega) (by rw [hz1]; decide) (by omega) (by omega) (by rw [hz2]; omega)
        (by have := growslice_fits (need := 0 + n) (old := 0) (bytes := i0.bytes) (by omega) (by rw [hz2]; omega); exact this)
      rw [Nat.zero_add] at h
      exact h
    have hG := grownCap_ge w n 0 3
    have hG2 : grownCap w n 0 3 ≤ 9223372036854775807 := by
      have := grownCap_le_maxLen w n 0 3 (by unfold maxLen; omega)
      unfold maxLen at this
      omega
    obtain ⟨G, eG⟩ : ∃ G, G = grownCap w n 0 3 := ⟨_, rfl⟩
    rw [← eG] at hG hG2
    simp only [← eG] at hrz
    clear eG
    have how : Owns (w.drew.alloc (.cells (#[] ++ Builtin.zeroCells #[.int .i64 0] n ++ Builtin.zeroCells #[.int .i64 0] (G - n)) 3)) w.heap.size 1 (.slice (some ⟨w.heap.size, 0, none⟩) 0 G) 0 [] := by
      refine ⟨rfl, .inr ⟨w.heap.size, G, rfl, Nat.le_refl _, by simp, Nat.zero_le _, fun j u hu => by simp at hu, fun j hj => ?_⟩⟩
      have hh : (w.drew.alloc (.cells (#[] ++ Builtin.zeroCells #[.int .i64 0] n ++ Builtin.zeroCells #[.int .i64 0] (G - n)) 3)).heap[w.heap.size]? = some (.cells (#[] ++ Builtin.zeroCells #[.int .i64 0] n ++ Builtin.zeroCells #[.int .i64 0] (G - n)) 3 (0, 0)) := heap_alloc_at _ _ _ rfl
      refine ⟨?_, frozen_of_row _ _ _ _ _ hh⟩
      rw [cell_of_row _ _ _ _ _ _ hh]
      rw [Array.getElem?_eq_getElem (by simp [zeroCells_size]; omega)]
      rfl
    have HOW := Lib.hid how
    have HB : Hid (Below w.heap.size w (w.drew.alloc (.cells (#[] ++ Builtin.zeroCells #[.int .i64 0] n ++ Builtin.zeroCells #[.int .i64 0] (G - n)) 3))) := ((Below.refl _ w).drew).alloc (Nat.le_refl _) _
    clear hi hz0 hz1 hz2 i0 how
    obtain ⟨W, hW⟩ : ∃ W, W = (w.drew.alloc (.cells (#[] ++ Builtin.zeroCells #[.int .i64 0] n ++ Builtin.zeroCells #[.int .i64 0] (G - n)) 3)) := ⟨_, rfl⟩
    rw [← hW] at HOW HB
    simp only [← hW] at hrz
    clear hW
    have hz := Lib.hid hrz
    clear hrz
    go_enter Try.func119, Try.ntmps119
    go_wp2_with (at_builtin; refine Lib.wpList_append_run _ rfl _ _ _ _ rfl _ _ rfl rfl _ _ (hz.out _) ?_)
    go_ret
    exact ⟨_, rfl, HOW.out, HB.out⟩

def cat2 {α : Type} (l1 l2 : List α) (k : Nat) : List α := if k = 0 then [] else if k = 1 then l1 else l1 ++ l2
def sum2 (n1 n2 k : Nat) : Nat := if k = 0 then 0 else if k = 1 then n1 else n1 + n2

set_option maxHeartbeats 2000000 in
set_option maxRecDepth 100000 in
theorem concatI (bo : Nat) (s1 s2 : Value) (n1 n2 : Nat) (l1 l2 : List Value) (hb : n1 + n2 ≤ 4096) (ho1 : ∀ u ∈ l1, u.oneCell' = true) (ho2 : ∀ u ∈ l2, u.oneCell' = true) (w : World)
    (hbo : w.heap[bo]? = some (.cells #[s1, s2] 48 (0, 0))) (h1 : Src w s1 n1 1 l1) (h2 : Src w s2 n2 1 l2) :
    Calls Try.prog 97 #[.slice (some ⟨bo, 0, none⟩) 2 2] w fun e w' => ∃ v, e = .returned v ∧ Owns w' w.heap.size 1 v (n1 + n2) (l1 ++ l2) ∧ Below w.heap.size w w' := by
  have hg0 := growI_nil (n1 + n2) (by omega)
  rw [show ((n1 + n2 : Nat) : Int) = (n1 : Int) + n2 by omega] at hg0
  have hg := Lib.hid hg0
  clear hg0
  obtain ⟨p1, c1, rfl, hl1, hz1, hs1⟩ := h1
  obtain ⟨p2, c2, rfl, hl2, hz2, hs2⟩ := h2
  have hblt := lt_of_heap hbo
  have a0 : w.cell? ⟨bo, 0, none⟩ = some (.slice p1 n1 c1) := by rw [cell_of_row _ _ _ _ _ _ hbo]; rfl
  have a1 : w.cell? ⟨bo, 1, none⟩ = some (.slice p2 n2 c2) := by rw [cell_of_row _ _ _ _ _ _ hbo]; rfl
  have HS1 : Hid (Src w (.slice p1 n1 c1) n1 1 l1) := ⟨p1, c1, rfl, hl1, hz1, hs1⟩
  have HS2 : Hid (Src w (.slice p2 n2 c2) n2 1 l2) := ⟨p2, c2, rfl, hl2, hz2, hs2⟩
  have HBO := Lib.hid hbo
  have HO1 := Lib.hid ho1
  have HO2 := Lib.hid ho2
  have HL1 := Lib.hid hl1
  have HL2 := Lib.hid hl2
  clear hl1 hz1 hs1 hl2 hz2 hs2 hbo ho1 ho2
  go_enter Try.func97, Try.ntmps97
  go_wp2
  go_loop [3, 11] (fun s i => ∃ k : Nat, k ≤ 2 ∧ i = .int .i64 k ∧ s = .int .i64 (sum2 n1 n2 k)) (fun _ i => 2 - (intOf i).toNat)
  case atStart => exact ⟨0, by omega, rfl, rfl⟩
  case round =>
    obtain ⟨k, hk, rfl, rfl⟩ := hrel
    obtain rfl | rfl | rfl : k = 0 ∨ k = 1 ∨ k = 2 := by omega
    · have e0 : sum2 n1 n2 0 = 0 := rfl
      rw [e0]
      clear hk
      go_wp2
      exact ⟨⟨1, by omega, by go_num, by rfl⟩, by simp [intOf]⟩
    · have e0 : sum2 n1 n2 1 = n1 := rfl
      rw [e0]
      clear hk
      go_wp2
      exact ⟨⟨2, by omega, by go_num, by rfl⟩, by simp [intOf]⟩
    · have e0 : sum2 n1 n2 2 = n1 + n2 := rfl
      rw [e0]
      clear hk e0
      go_wp2_with fail
      (with_reducible refine (hg.out _).mono ?_)
      rintro e w1 ⟨v, rfl, hO, hB⟩
      have HO := Lib.hid hO
      have HB := Lib.hid hB
      clear hO hB
      go_wp2
      go_loopw [6, 27] (fun u i wr => ∃ k : Nat, k ≤ 2 ∧ i = .int .i64 k ∧ Owns wr w.heap.size 1 u (sum2 n1 n2 k) (cat2 l1 l2 k) ∧ Below w.heap.size w wr) (fun _ i _ => 2 - (intOf i).toNat)
      case atStart => exact ⟨0, by omega, rfl, HO.out, HB.out⟩
      case round =>
        obtain ⟨k, hk, rfl, hO, hB⟩ := hrel
        have O := Lib.hid hO
        have BB := Lib.hid hB
        obtain rfl | rfl | rfl : k = 0 ∨ k = 1 ∨ k = 2 := by omega
        · have b0 : wr.cell? ⟨bo, 0, none⟩ = some (.slice p1 n1 c1) := (hB.cell (p := ⟨bo, 0, none⟩) hblt).trans a0
          have S1 := HS1.out.below hB
          obtain ⟨p', c', e', _, hz1, hs1⟩ := S1
          obtain ⟨rfl, rfl⟩ : p' = p1 ∧ c' = c1 := by simp at e'; exact ⟨e'.1.symm, e'.2.symm⟩
          have HN := Lib.hid hz1
          have HC := Lib.hid (fun ad h => (hs1 ad h).2)
          clear hO hB hk hz1 hs1 e'
          go_wp2_with (at_builtin; refine wpList_append_any2 rfl _ _ 48 rfl w.heap.size 3 (.int .i64 0) 1 8 Try.underlying48 intInfo rfl (by decide) _ _ _ rfl O.out _ _ _ l1 rfl (by rw [HL1.out]) HN.out HC.out HO1.out (by unfold maxLen; simp [sum2]; omega) (by simp [sum2]; omega) BB.out.size ?_; intro u1 x1 ha1 hg1 hw1)
          exact ⟨⟨1, by omega, by go_num, by simpa [sum2, cat2] using ha1, BB.out.grown hg1 BB.out.size (fun k hk => (O.out.lt k hk).1)⟩, by simp [intOf]⟩
        · have b0 : wr.cell? ⟨bo, 1, none⟩ = some (.slice p2 n2 c2) := (hB.cell (p := ⟨bo, 1, none⟩) hblt).trans a1
          have S1 := HS2.out.below hB
          obtain ⟨p', c', e', _, hz1, hs1⟩ := S1
          obtain ⟨rfl, rfl⟩ : p' = p2 ∧ c' = c2 := by simp at e'; exact ⟨e'.1.symm, e'.2.symm⟩
          have HN := Lib.hid hz1
          have HC := Lib.hid (fun ad h => (hs1 ad h).2)
          clear hO hB hk hz1 hs1 e'
          go_wp2_with (at_builtin; refine wpList_append_any2 rfl _ _ 48 rfl w.heap.size 3 (.int .i64 0) 1 8 Try.underlying48 intInfo rfl (by decide) _ _ _ rfl O.out _ _ _ l2 rfl (by rw [HL2.out]) HN.out HC.out HO2.out (by unfold maxLen; simp [sum2]; omega) (by simp [sum2]; omega) BB.out.size ?_; intro u1 x1 ha1 hg1 hw1)
          exact ⟨⟨2, by omega, by go_num, by simpa [sum2, cat2] using ha1, BB.out.grown hg1 BB.out.size (fun k hk => (O.out.lt k hk).1)⟩, by simp [intOf]⟩
        · clear hO hB
          go_wp2
          go_ret
          exact ⟨_, rfl, O.out, BB.out⟩
end Go.Proofs.Ytjbapfdgkaiehaa
