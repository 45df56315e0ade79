/- Layer 7: all things of a ring of ints. -/
import Derived.Test.YtjbapfdgkaiehaaRingI2
namespace Go.Proofs.Ytjbapfdgkaiehaa
open Go.ChangeShapes Go.WideShapes Go.ChangeAt Go.RowKit

def rot {α : Type} (f : Nat) (l : List α) : List α := l.drop f ++ l.take f

theorem Owns.src {w : World} {B n : Nat} {g cap : Nat} {xs : List Value} (h : Owns w B 1 (.slice (some ⟨g, 0, none⟩) n cap) n xs) (first : Nat) (hf : first ≤ n) :
    Src w (.slice (some ⟨g, first, none⟩) (n - first) (cap - first)) (n - first) 1 (xs.drop first) ∧ Src w (.slice (some ⟨g, 0, none⟩) first cap) first 1 (xs.take first) := by
  obtain ⟨hl, h⟩ := h
  rcases h with ⟨h1, _⟩ | ⟨g', cap', h1, h2, h3, h4, h5, h6⟩
  · simp at h1
  · simp only [Value.slice.injEq, Option.some.injEq, Addr.mk.injEq, and_true, true_and] at h1
    obtain ⟨rfl, rfl⟩ := h1
    refine ⟨⟨_, _, rfl, by rw [List.length_drop]; omega, by simp, fun ad had => ?_⟩, ⟨_, _, rfl, by rw [List.length_take]; omega, by simp, fun ad had => ?_⟩⟩
    · obtain rfl : ad = ⟨g, first, none⟩ := by simpa using had.symm
      refine ⟨h3, fun j u hu => ?_⟩
      rw [List.getElem?_drop] at hu
      have : (⟨g, first, none⟩ : Addr).add j = ⟨g, first + j, none⟩ := by unfold Addr.add; split <;> simp_all
      rw [this]
      exact h5 _ _ hu
    · obtain rfl : ad = ⟨g, 0, none⟩ := by simpa using had.symm
      refine ⟨h3, fun j u hu => ?_⟩
      have hj : j < first := by have := (List.getElem?_eq_some_iff.1 hu).1; rw [List.length_take] at this; omega
      rw [List.getElem?_take_of_lt hj] at hu
      have : (⟨g, 0, none⟩ : Addr).add j = ⟨g, j, none⟩ := by unfold Addr.add; split <;> simp_all
      rw [this]
      exact h5 _ _ hu

/-- What 'All' hands back: a function that has all things in a box. -/
def AllOf (fn T : Nat) (w : World) (n sz : Nat) (xs : List Value) (e : Ending) (w' : World) : Prop :=
  ∃ Bn u, e = .returned (.func (.func fn) #[] #[.pointer (some ⟨Bn, 0, none⟩)]) ∧ w.heap.size ≤ Bn ∧ w'.heap[Bn]? = some (.cells #[u] T (0, 0)) ∧ Owns w' (Bn + 1) sz u n xs ∧ Below w.heap.size w w'

set_option maxHeartbeats 2000000 in
set_option maxRecDepth 100000 in
theorem ringI_all_nil (w : World) : Calls Try.prog 72 #[.pointer none] w (AllOf 98 48 w 0 1 []) := by
  go_enter Try.func72, Try.ntmps72
  go_wp2
  go_ret
  exact ⟨w.heap.size, _, rfl, Nat.le_refl _, (by first | (with_reducible exact heap_1_0 _ _) | (with_reducible exact heap_2_0 _ _ _) | (with_reducible exact heap_2_1 _ _ _) | (with_reducible exact heap_3_0 _ _ _ _) | (with_reducible exact heap_3_1 _ _ _ _) | (with_reducible exact heap_3_2 _ _ _ _) | (with_reducible exact heap_4_0 _ _ _ _ _) | (with_reducible exact heap_4_1 _ _ _ _ _) | (with_reducible exact heap_4_2 _ _ _ _ _) | (with_reducible exact heap_4_3 _ _ _ _ _) | (with_reducible exact heap_5_0 _ _ _ _ _ _) | (with_reducible exact heap_5_1 _ _ _ _ _ _) | (with_reducible exact heap_5_2 _ _ _ _ _ _) | (with_reducible exact heap_5_3 _ _ _ _ _ _) | (with_reducible exact heap_5_4 _ _ _ _ _ _) | (with_reducible exact heap_6_0 _ _ _ _ _ _ _) | (with_reducible exact heap_6_1 _ _ _ _ _ _ _) | (with_reducible exact heap_6_2 _ _ _ _ _ _ _) | (with_reducible exact heap_6_3 _ _ _ _ _ _ _) | (with_reducible exact heap_6_4 _ _ _ _ _ _ _) | (with_reducible exact heap_6_5 _ _ _ _ _ _ _) | simp only [heap_alloc_past, heap_alloc_at, World.size_alloc, Nat.add_assoc, Nat.reduceAdd, Nat.lt_add_right_iff_pos, Nat.add_lt_add_iff_left, Nat.reduceLT, Nat.zero_lt_succ, Nat.lt_add_one]), owns_nil _ _ _, below1 _ _⟩

set_option maxHeartbeats 2000000 in
set_option maxRecDepth 100000 in
theorem ringI_all_some {w : World} {B r g cap : Nat} {room first n : Nat} {xs : List Value} (h : RingAt 102 1 w B r (.slice (some ⟨g, 0, none⟩) n cap) room first n xs) (hn : n ≤ 4096) (hf : first < n) (hcap : n ≤ cap) (h1 : ∀ u ∈ xs, u.oneCell' = true) :
    Calls Try.prog 72 #[.pointer (some ⟨r, 0, none⟩)] w (AllOf 98 48 w n 1 (rot first xs)) := by
  have H := Lib.hid h
  have H1 := Lib.hid h1
  have hst := stab_and (stab_and (stab_ring (TR := 102) (sz := 1) (B := B) (r := r) (v := .slice (some ⟨g, 0, none⟩) n cap) (room := room) (first := first) (n := n) (xs := xs)) (stab_heap w.heap.size (.cells #[.slice none 0 0] 48 (0, 0)))) (stab_below (B := w.heap.size) (w0 := w) (Nat.le_refl _))
  clear h h1
  go_enter Try.func72, Try.ntmps72
  go_wp2
  refine wp_region_E mixed [20] hst ⟨⟨(H.out.below (below1 _ _)).same (Nat.le_refl _) rfl (fun _ _ => rfl), heap_alloc_at _ _ _ rfl⟩, below_drew (below1 _ _)⟩ ?_
  refine wpAnyE_take 0 rfl (by kernel_rfl) (by kernel_rfl) (by kernel_rfl) (fun _ _ _ h => h) hst (EffB.pure rfl (fun _ => rfl)) (.inr (EffB.pure rfl (fun _ => rfl))) ?_
  simp only [act_norm]
  refine wpAnyE_take 1 (v := .pointer (some ⟨r, 0, none⟩)) rfl (by kernel_rfl) (by kernel_rfl) (by kernel_rfl) (fun _ _ _ h => h) hst (EffB.run rfl rfl (fun wd hS => ?_)) (.inr (EffB.run rfl rfl (fun wd hS => ?_))) ?_
  · (go_wp2; exact ⟨rfl, Below.refl _ _⟩)
  · (go_wp2; exact ⟨rfl, Below.refl _ _⟩)
  simp only [act_norm]
  refine wpAnyE_take 2 (v := .pointer (some ⟨r, 2, none⟩)) rfl (by kernel_rfl) (by kernel_rfl) (by kernel_rfl) (fun _ _ _ h => h) hst (EffB.run rfl rfl (fun wd hS => ?_)) (.inr (EffB.run rfl rfl (fun wd hS => ?_))) ?_
  · (go_wp2; exact ⟨rfl, Below.refl _ _⟩)
  · (go_wp2; exact ⟨rfl, Below.refl _ _⟩)
  simp only [act_norm]
  refine wpAnyE_take 3 (v := .slice (some ⟨g, 0, none⟩) n cap) rfl (by kernel_rfl) (by kernel_rfl) (by kernel_rfl) (fun _ _ _ h => h) hst (EffB.run rfl rfl (fun wd hS => ?_)) (.inl (by kernel_rfl)) ?_
  · (have c2 : wd.cell? ⟨r, 2, none⟩ = some (.slice (some ⟨g, 0, none⟩) n cap) := by rw [cell_of_row _ _ _ _ _ _ (hS.1.1.row)]; rfl); go_wp2; exact ⟨rfl, Below.refl _ _⟩
  simp only [act_norm]
  refine wpAnyE_take 4 rfl (by kernel_rfl) (by kernel_rfl) (by kernel_rfl) (fun _ _ _ h => h) hst (EffB.pure rfl (fun _ => rfl)) (.inr (EffB.pure rfl (fun _ => rfl))) ?_
  simp only [act_norm]
  refine wpAnyE_take 5 (v := .pointer (some ⟨r, 0, none⟩)) rfl (by kernel_rfl) (by kernel_rfl) (by kernel_rfl) (fun _ _ _ h => h) hst (EffB.run rfl rfl (fun wd hS => ?_)) (.inr (EffB.run rfl rfl (fun wd hS => ?_))) ?_
  · (go_wp2; exact ⟨rfl, Below.refl _ _⟩)
  · (go_wp2; exact ⟨rfl, Below.refl _ _⟩)
  simp only [act_norm]
  refine wpAnyE_take 6 (v := .pointer (some ⟨r, 1, none⟩)) rfl (by kernel_rfl) (by kernel_rfl) (by kernel_rfl) (fun _ _ _ h => h) hst (EffB.run rfl rfl (fun wd hS => ?_)) (.inr (EffB.run rfl rfl (fun wd hS => ?_))) ?_
  · (go_wp2; exact ⟨rfl, Below.refl _ _⟩)
  · (go_wp2; exact ⟨rfl, Below.refl _ _⟩)
  simp only [act_norm]
  refine wpAnyE_take 7 (v := .int .i64 first) rfl (by kernel_rfl) (by kernel_rfl) (by kernel_rfl) (fun _ _ _ h => h) hst (EffB.run rfl rfl (fun wd hS => ?_)) (.inl (by kernel_rfl)) ?_
  · (have c2 : wd.cell? ⟨r, 1, none⟩ = some (.int .i64 first) := by rw [cell_of_row _ _ _ _ _ _ (hS.1.1.row)]; rfl); go_wp2; exact ⟨rfl, Below.refl _ _⟩
  simp only [act_norm]
  refine wpAnyE_take 8 (v := .slice (some ⟨g, first, none⟩) (n - first) (cap - first)) rfl (by kernel_rfl) (by kernel_rfl) (by kernel_rfl) (fun _ _ _ h => h) hst (EffB.run rfl rfl (fun wd hS => ?_)) (.inr (EffB.run rfl rfl (fun wd hS => ?_))) ?_
  · (go_wp2; exact ⟨rfl, Below.refl _ _⟩)
  · (go_wp2; exact ⟨rfl, Below.refl _ _⟩)
  simp only [act_norm]
  refine wpAnyE_take 9 rfl (by kernel_rfl) (by kernel_rfl) (by kernel_rfl) (fun _ _ _ h => h) hst (EffB.pure rfl (fun _ => rfl)) (.inr (EffB.pure rfl (fun _ => rfl))) ?_
  simp only [act_norm]
  refine wpAnyE_take 10 (v := .pointer (some ⟨r, 0, none⟩)) rfl (by kernel_rfl) (by kernel_rfl) (by kernel_rfl) (fun _ _ _ h => h) hst (EffB.run rfl rfl (fun wd hS => ?_)) (.inr (EffB.run rfl rfl (fun wd hS => ?_))) ?_
  · (go_wp2; exact ⟨rfl, Below.refl _ _⟩)
  · (go_wp2; exact ⟨rfl, Below.refl _ _⟩)
  simp only [act_norm]
  refine wpAnyE_take 11 (v := .pointer (some ⟨r, 2, none⟩)) rfl (by kernel_rfl) (by kernel_rfl) (by kernel_rfl) (fun _ _ _ h => h) hst (EffB.run rfl rfl (fun wd hS => ?_)) (.inr (EffB.run rfl rfl (fun wd hS => ?_))) ?_
  · (go_wp2; exact ⟨rfl, Below.refl _ _⟩)
  · (go_wp2; exact ⟨rfl, Below.refl _ _⟩)
  simp only [act_norm]
  refine wpAnyE_take 12 (v := .slice (some ⟨g, 0, none⟩) n cap) rfl (by kernel_rfl) (by kernel_rfl) (by kernel_rfl) (fun _ _ _ h => h) hst (EffB.run rfl rfl (fun wd hS => ?_)) (.inl (by kernel_rfl)) ?_
  · (have c2 : wd.cell? ⟨r, 2, none⟩ = some (.slice (some ⟨g, 0, none⟩) n cap) := by rw [cell_of_row _ _ _ _ _ _ (hS.1.1.row)]; rfl); go_wp2; exact ⟨rfl, Below.refl _ _⟩
  simp only [act_norm]
  refine wpAnyE_take 13 rfl (by kernel_rfl) (by kernel_rfl) (by kernel_rfl) (fun _ _ _ h => h) hst (EffB.pure rfl (fun _ => rfl)) (.inr (EffB.pure rfl (fun _ => rfl))) ?_
  simp only [act_norm]
  refine wpAnyE_take 14 (v := .pointer (some ⟨r, 0, none⟩)) rfl (by kernel_rfl) (by kernel_rfl) (by kernel_rfl) (fun _ _ _ h => h) hst (EffB.run rfl rfl (fun wd hS => ?_)) (.inr (EffB.run rfl rfl (fun wd hS => ?_))) ?_
  · (go_wp2; exact ⟨rfl, Below.refl _ _⟩)
  · (go_wp2; exact ⟨rfl, Below.refl _ _⟩)
  simp only [act_norm]
  refine wpAnyE_take 15 (v := .pointer (some ⟨r, 1, none⟩)) rfl (by kernel_rfl) (by kernel_rfl) (by kernel_rfl) (fun _ _ _ h => h) hst (EffB.run rfl rfl (fun wd hS => ?_)) (.inr (EffB.run rfl rfl (fun wd hS => ?_))) ?_
  · (go_wp2; exact ⟨rfl, Below.refl _ _⟩)
  · (go_wp2; exact ⟨rfl, Below.refl _ _⟩)
  simp only [act_norm]
  refine wpAnyE_take 16 (v := .int .i64 first) rfl (by kernel_rfl) (by kernel_rfl) (by kernel_rfl) (fun _ _ _ h => h) hst (EffB.run rfl rfl (fun wd hS => ?_)) (.inl (by kernel_rfl)) ?_
  · (have c2 : wd.cell? ⟨r, 1, none⟩ = some (.int .i64 first) := by rw [cell_of_row _ _ _ _ _ _ (hS.1.1.row)]; rfl); go_wp2; exact ⟨rfl, Below.refl _ _⟩
  simp only [act_norm]
  refine wpAnyE_take 17 (v := .slice (some ⟨g, 0, none⟩) first cap) rfl (by kernel_rfl) (by kernel_rfl) (by kernel_rfl) (fun _ _ _ h => h) hst (EffB.run rfl rfl (fun wd hS => ?_)) (.inr (EffB.run rfl rfl (fun wd hS => ?_))) ?_
  · (go_wp2; exact ⟨rfl, Below.refl _ _⟩)
  · (go_wp2; exact ⟨rfl, Below.refl _ _⟩)
  simp only [act_norm]
  refine wpAnyE_one 18 rfl (by kernel_rfl) rfl (fun wd hS => ?_)
  have hso := Owns.src hS.1.1.owns first (by omega)
  have hst2 := stab_and (stab_and (stab_and hst (stab_heap wd.heap.size (.cells #[.slice (some ⟨g, first, none⟩) (n - first) (cap - first), .slice (some ⟨g, 0, none⟩) first cap] 48 (0, 0)))) (stab_src (s := .slice (some ⟨g, first, none⟩) (n - first) (cap - first)) (n := n - first) (sz := 1) (xs := xs.drop first))) (stab_src (s := .slice (some ⟨g, 0, none⟩) first cap) (n := first) (sz := 1) (xs := xs.take first))
  have X1 : Hid (((((RingAt 102 1 (wd.alloc (.cells #[.slice (some ⟨g, first, none⟩) (n - first) (cap - first), .slice (some ⟨g, 0, none⟩) first cap] 48)) B r (.slice (some ⟨g, 0, none⟩) n cap) room first n xs ∧ (wd.alloc (.cells #[.slice (some ⟨g, first, none⟩) (n - first) (cap - first), .slice (some ⟨g, 0, none⟩) first cap] 48)).heap[w.heap.size]? = some (.cells #[.slice none 0 0] 48 (0, 0))) ∧ Below w.heap.size w (wd.alloc (.cells #[.slice (some ⟨g, first, none⟩) (n - first) (cap - first), .slice (some ⟨g, 0, none⟩) first cap] 48)))
    ∧ (wd.alloc (.cells #[.slice (some ⟨g, first, none⟩) (n - first) (cap - first), .slice (some ⟨g, 0, none⟩) first cap] 48)).heap[wd.heap.size]? = some (.cells #[.slice (some ⟨g, first, none⟩) (n - first) (cap - first), .slice (some ⟨g, 0, none⟩) first cap] 48 (0, 0)))
    ∧ Src (wd.alloc (.cells #[.slice (some ⟨g, first, none⟩) (n - first) (cap - first), .slice (some ⟨g, 0, none⟩) first cap] 48)) (.slice (some ⟨g, first, none⟩) (n - first) (cap - first)) (n - first) 1 (xs.drop first))
    ∧ Src (wd.alloc (.cells #[.slice (some ⟨g, first, none⟩) (n - first) (cap - first), .slice (some ⟨g, 0, none⟩) first cap] 48)) (.slice (some ⟨g, 0, none⟩) first cap) first 1 (xs.take first)) := ⟨⟨⟨hst _ _ hS (below1 _ _), heap_alloc_at _ _ _ rfl⟩, hso.1.below (below1 _ _)⟩, hso.2.below (below1 _ _)⟩
  clear hS hso
  go_wp2
  refine ⟨_, X1.out, hst2, fun _ h => h.1.1.1, ?_⟩
  obtain ⟨X, hX⟩ : ∃ X, wd.heap.size = X := ⟨_, rfl⟩
  rw [hX] at hst2 ⊢
  clear X1 hst hX
  try simp only [act_norm]
  refine wpAnyE_one 19 rfl (by kernel_rfl) rfl (fun wd2 hS => ?_)
  go_wp2_with fail
  (with_reducible refine (concatI X _ _ (n - first) first (xs.drop first) (xs.take first) (by omega) (fun u hu => H1.out u (List.mem_of_mem_drop hu)) (fun u hu => H1.out u (List.mem_of_mem_take hu)) wd2 hS.1.1.2 hS.1.2 hS.2).mono ?_)
  rintro e w5 ⟨u, rfl, hO, hb5⟩
  rw [Nat.sub_add_cancel (by omega)] at hO
  have hO2 : Owns w5 (w.heap.size + 1) 1 u n (rot first xs) := hO.mono (lt_of_heap hS.1.1.1.1.2)
  obtain ⟨pu, cu, rfl, _⟩ := hO.sl
  have hst3 := stab_and hst2 (stab_owns (B := w.heap.size + 1) (sz := 1) (v := .slice pu n cu) (n := n) (xs := rot first xs))
  refine ⟨_, ⟨hst2 _ _ hS hb5, hO2⟩, hst3, (by first | exact fun _ h => h.1 | exact .inr fun _ h => h.1), ?_⟩
  clear hS hO hO2 hb5 hst2
  try simp only [act_norm]
  refine wpAnyE_one 20 rfl (by kernel_rfl) rfl (fun wd3 hS => ?_)
  have k1 := hS.1.1.1.1.1.2
  have c1 : wd3.cell? ⟨w.heap.size, 0, none⟩ = some (.slice none 0 0) := by rw [cell_of_row _ _ _ _ _ _ k1]; rfl
  have g1 := frozen_of_row _ _ 0 _ _ k1
  have k2 : (wd3.setCell ⟨w.heap.size, 0, none⟩ (.slice pu n cu)).heap[w.heap.size]? = some (.cells #[.slice pu n cu] 48 (0, 0)) := by rw [heap_setCell_same _ _ _ _ _ _ k1]; rfl
  have o2 : Owns (wd3.setCell ⟨w.heap.size, 0, none⟩ (.slice pu n cu)) (w.heap.size + 1) 1 (.slice pu n cu) n (rot first xs) := hS.2.setOther _ (fun e => by have := (hS.2.lt _ e).1; omega)
  have b2 : Below w.heap.size w (wd3.setCell ⟨w.heap.size, 0, none⟩ (.slice pu n cu)) := hS.1.1.1.1.2.setCell (Nat.le_refl _) _
  have X2 := Lib.hid (And.intro (And.intro k2 o2) b2)
  clear hS k1 k2 o2 b2 hst3
  go_wp2
  refine ⟨_, X2.out, stab_and (stab_and (stab_heap _ _) stab_owns) (stab_below (Nat.le_refl _)), ?_⟩
  try simp only [act_norm]
  clear X2 c1 g1
  refine wpAnyE_done (by kernel_rfl) (fun wd4 hS => ?_) _
  go_wp2
  go_ret
  exact ⟨w.heap.size, _, rfl, Nat.le_refl _, hS.1.1, hS.1.2, hS.2⟩

set_option maxHeartbeats 2000000 in
set_option maxRecDepth 100000 in
theorem ringI_all_zero {w : World} {B r : Nat} {room first : Nat} (h : RingAt 102 1 w B r (.slice none 0 0) room first 0 []) (hf : first = 0) :
    Calls Try.prog 72 #[.pointer (some ⟨r, 0, none⟩)] w (AllOf 98 48 w 0 1 []) := by
  subst hf
  have H := Lib.hid h
  have hst := stab_and (stab_and (stab_ring (TR := 102) (sz := 1) (B := B) (r := r) (v := .slice none 0 0) (room := room) (first := 0) (n := 0) (xs := [])) (stab_heap w.heap.size (.cells #[.slice none 0 0] 48 (0, 0)))) (stab_below (B := w.heap.size) (w0 := w) (Nat.le_refl _))
  clear h
  go_enter Try.func72, Try.ntmps72
  go_wp2
  refine wp_region_E mixed [20] hst ⟨⟨(H.out.below (below1 _ _)).same (Nat.le_refl _) rfl (fun _ _ => rfl), heap_alloc_at _ _ _ rfl⟩, below_drew (below1 _ _)⟩ ?_
  refine wpAnyE_take 0 rfl (by kernel_rfl) (by kernel_rfl) (by kernel_rfl) (fun _ _ _ h => h) hst (EffB.pure rfl (fun _ => rfl)) (.inr (EffB.pure rfl (fun _ => rfl))) ?_
  simp only [act_norm]
  refine wpAnyE_take 1 (v := .pointer (some ⟨r, 0, none⟩)) rfl (by kernel_rfl) (by kernel_rfl) (by kernel_rfl) (fun _ _ _ h => h) hst (EffB.run rfl rfl (fun wd hS => ?_)) (.inr (EffB.run rfl rfl (fun wd hS => ?_))) ?_
  · (go_wp2; exact ⟨rfl, Below.refl _ _⟩)
  · (go_wp2; exact ⟨rfl, Below.refl _ _⟩)
  simp only [act_norm]
  refine wpAnyE_take 2 (v := .pointer (some ⟨r, 2, none⟩)) rfl (by kernel_rfl) (by kernel_rfl) (by kernel_rfl) (fun _ _ _ h => h) hst (EffB.run rfl rfl (fun wd hS => ?_)) (.inr (EffB.run rfl rfl (fun wd hS => ?_))) ?_
  · (go_wp2; exact ⟨rfl, Below.refl _ _⟩)
  · (go_wp2; exact ⟨rfl, Below.refl _ _⟩)
  simp only [act_norm]
  refine wpAnyE_take 3 (v := .slice none 0 0) rfl (by kernel_rfl) (by kernel_rfl) (by kernel_rfl) (fun _ _ _ h => h) hst (EffB.run rfl rfl (fun wd hS => ?_)) (.inl (by kernel_rfl)) ?_
  · (have c2 : wd.cell? ⟨r, 2, none⟩ = some (.slice none 0 0) := by rw [cell_of_row _ _ _ _ _ _ (hS.1.1.row)]; rfl); go_wp2; exact ⟨rfl, Below.refl _ _⟩
  simp only [act_norm]
  refine wpAnyE_take 4 rfl (by kernel_rfl) (by kernel_rfl) (by kernel_rfl) (fun _ _ _ h => h) hst (EffB.pure rfl (fun _ => rfl)) (.inr (EffB.pure rfl (fun _ => rfl))) ?_
  simp only [act_norm]
  refine wpAnyE_take 5 (v := .pointer (some ⟨r, 0, none⟩)) rfl (by kernel_rfl) (by kernel_rfl) (by kernel_rfl) (fun _ _ _ h => h) hst (EffB.run rfl rfl (fun wd hS => ?_)) (.inr (EffB.run rfl rfl (fun wd hS => ?_))) ?_
  · (go_wp2; exact ⟨rfl, Below.refl _ _⟩)
  · (go_wp2; exact ⟨rfl, Below.refl _ _⟩)
  simp only [act_norm]
  refine wpAnyE_take 6 (v := .pointer (some ⟨r, 1, none⟩)) rfl (by kernel_rfl) (by kernel_rfl) (by kernel_rfl) (fun _ _ _ h => h) hst (EffB.run rfl rfl (fun wd hS => ?_)) (.inr (EffB.run rfl rfl (fun wd hS => ?_))) ?_
  · (go_wp2; exact ⟨rfl, Below.refl _ _⟩)
  · (go_wp2; exact ⟨rfl, Below.refl _ _⟩)
  simp only [act_norm]
  refine wpAnyE_take 7 (v := .int .i64 0) rfl (by kernel_rfl) (by kernel_rfl) (by kernel_rfl) (fun _ _ _ h => h) hst (EffB.run rfl rfl (fun wd hS => ?_)) (.inl (by kernel_rfl)) ?_
  · (have c2 : wd.cell? ⟨r, 1, none⟩ = some (.int .i64 0) := by rw [cell_of_row _ _ _ _ _ _ (hS.1.1.row)]; rfl); go_wp2; exact ⟨rfl, Below.refl _ _⟩
  simp only [act_norm]
  refine wpAnyE_take 8 (v := .slice none 0 0) rfl (by kernel_rfl) (by kernel_rfl) (by kernel_rfl) (fun _ _ _ h => h) hst (EffB.run rfl rfl (fun wd hS => ?_)) (.inr (EffB.run rfl rfl (fun wd hS => ?_))) ?_
  · (go_wp2; exact ⟨rfl, Below.refl _ _⟩)
  · (go_wp2; exact ⟨rfl, Below.refl _ _⟩)
  simp only [act_norm]
  refine wpAnyE_take 9 rfl (by kernel_rfl) (by kernel_rfl) (by kernel_rfl) (fun _ _ _ h => h) hst (EffB.pure rfl (fun _ => rfl)) (.inr (EffB.pure rfl (fun _ => rfl))) ?_
  simp only [act_norm]
  refine wpAnyE_take 10 (v := .pointer (some ⟨r, 0, none⟩)) rfl (by kernel_rfl) (by kernel_rfl) (by kernel_rfl) (fun _ _ _ h => h) hst (EffB.run rfl rfl (fun wd hS => ?_)) (.inr (EffB.run rfl rfl (fun wd hS => ?_))) ?_
  · (go_wp2; exact ⟨rfl, Below.refl _ _⟩)
  · (go_wp2; exact ⟨rfl, Below.refl _ _⟩)
  simp only [act_norm]
  refine wpAnyE_take 11 (v := .pointer (some ⟨r, 2, none⟩)) rfl (by kernel_rfl) (by kernel_rfl) (by kernel_rfl) (fun _ _ _ h => h) hst (EffB.run rfl rfl (fun wd hS => ?_)) (.inr (EffB.run rfl rfl (fun wd hS => ?_))) ?_
  · (go_wp2; exact ⟨rfl, Below.refl _ _⟩)
  · (go_wp2; exact ⟨rfl, Below.refl _ _⟩)
  simp only [act_norm]
  refine wpAnyE_take 12 (v := .slice none 0 0) rfl (by kernel_rfl) (by kernel_rfl) (by kernel_rfl) (fun _ _ _ h => h) hst (EffB.run rfl rfl (fun wd hS => ?_)) (.inl (by kernel_rfl)) ?_
  · (have c2 : wd.cell? ⟨r, 2, none⟩ = some (.slice none 0 0) := by rw [cell_of_row _ _ _ _ _ _ (hS.1.1.row)]; rfl); go_wp2; exact ⟨rfl, Below.refl _ _⟩
  simp only [act_norm]
  refine wpAnyE_take 13 rfl (by kernel_rfl) (by kernel_rfl) (by kernel_rfl) (fun _ _ _ h => h) hst (EffB.pure rfl (fun _ => rfl)) (.inr (EffB.pure rfl (fun _ => rfl))) ?_
  simp only [act_norm]
  refine wpAnyE_take 14 (v := .pointer (some ⟨r, 0, none⟩)) rfl (by kernel_rfl) (by kernel_rfl) (by kernel_rfl) (fun _ _ _ h => h) hst (EffB.run rfl rfl (fun wd hS => ?_)) (.inr (EffB.run rfl rfl (fun wd hS => ?_))) ?_
  · (go_wp2; exact ⟨rfl, Below.refl _ _⟩)
  · (go_wp2; exact ⟨rfl, Below.refl _ _⟩)
  simp only [act_norm]
  refine wpAnyE_take 15 (v := .pointer (some ⟨r, 1, none⟩)) rfl (by kernel_rfl) (by kernel_rfl) (by kernel_rfl) (fun _ _ _ h => h) hst (EffB.run rfl rfl (fun wd hS => ?_)) (.inr (EffB.run rfl rfl (fun wd hS => ?_))) ?_
  · (go_wp2; exact ⟨rfl, Below.refl _ _⟩)
  · (go_wp2; exact ⟨rfl, Below.refl _ _⟩)
  simp only [act_norm]
  refine wpAnyE_take 16 (v := .int .i64 0) rfl (by kernel_rfl) (by kernel_rfl) (by kernel_rfl) (fun _ _ _ h => h) hst (EffB.run rfl rfl (fun wd hS => ?_)) (.inl (by kernel_rfl)) ?_
  · (have c2 : wd.cell? ⟨r, 1, none⟩ = some (.int .i64 0) := by rw [cell_of_row _ _ _ _ _ _ (hS.1.1.row)]; rfl); go_wp2; exact ⟨rfl, Below.refl _ _⟩
  simp only [act_norm]
  refine wpAnyE_take 17 (v := .slice none 0 0) rfl (by kernel_rfl) (by kernel_rfl) (by kernel_rfl) (fun _ _ _ h => h) hst (EffB.run rfl rfl (fun wd hS => ?_)) (.inr (EffB.run rfl rfl (fun wd hS => ?_))) ?_
  · (go_wp2; exact ⟨rfl, Below.refl _ _⟩)
  · (go_wp2; exact ⟨rfl, Below.refl _ _⟩)
  simp only [act_norm]
  refine wpAnyE_one 18 rfl (by kernel_rfl) rfl (fun wd hS => ?_)
  have hst2 := stab_and hst (stab_heap wd.heap.size (.cells #[.slice none 0 0, .slice none 0 0] 48 (0, 0)))
  have x1 := hst _ _ hS (below1 wd (.cells #[.slice none 0 0, .slice none 0 0] 48))
  have X1 := Lib.hid (And.intro x1 (heap_alloc_at wd (.cells #[.slice none 0 0, .slice none 0 0] 48) wd.heap.size rfl))
  clear hS x1
  go_wp2
  refine ⟨_, X1.out, hst2, fun _ h => h.1, ?_⟩
  obtain ⟨X, hX⟩ : ∃ X, wd.heap.size = X := ⟨_, rfl⟩
  rw [hX] at hst2 ⊢
  clear X1 hst hX
  try simp only [act_norm]
  refine wpAnyE_one 19 rfl (by kernel_rfl) rfl (fun wd2 hS => ?_)
  go_wp2_with fail
  (with_reducible refine (concatI X _ _ 0 0 [] [] (by omega) (fun u hu => by simp at hu) (fun u hu => by simp at hu) wd2 hS.2 (src_nil _ _) (src_nil _ _)).mono ?_)
  rintro e w5 ⟨u, rfl, hO, hb5⟩
  have hO2 : Owns w5 (w.heap.size + 1) 1 u 0 [] := hO.mono (lt_of_heap hS.1.1.2)
  obtain ⟨pu, cu, rfl, _⟩ := hO2.sl
  have hst3 := stab_and hst2 (stab_owns (B := w.heap.size + 1) (sz := 1) (v := .slice pu 0 cu) (n := 0) (xs := []))
  refine ⟨_, ⟨hst2 _ _ hS hb5, hO2⟩, hst3, (by first | exact fun _ h => h.1 | exact .inr fun _ h => h.1), ?_⟩
  clear hS hO hO2 hb5 hst2
  try simp only [act_norm]
  refine wpAnyE_one 20 rfl (by kernel_rfl) rfl (fun wd3 hS => ?_)
  have k1 := hS.1.1.1.2
  have c1 : wd3.cell? ⟨w.heap.size, 0, none⟩ = some (.slice none 0 0) := by rw [cell_of_row _ _ _ _ _ _ k1]; rfl
  have g1 := frozen_of_row _ _ 0 _ _ k1
  have k2 : (wd3.setCell ⟨w.heap.size, 0, none⟩ (.slice pu 0 cu)).heap[w.heap.size]? = some (.cells #[.slice pu 0 cu] 48 (0, 0)) := by rw [heap_setCell_same _ _ _ _ _ _ k1]; rfl
  have o2 : Owns (wd3.setCell ⟨w.heap.size, 0, none⟩ (.slice pu 0 cu)) (w.heap.size + 1) 1 (.slice pu 0 cu) 0 [] := hS.2.setOther _ (fun e => by have := (hS.2.lt _ e).1; omega)
  have b2 : Below w.heap.size w (wd3.setCell ⟨w.heap.size, 0, none⟩ (.slice pu 0 cu)) := hS.1.1.2.setCell (Nat.le_refl _) _
  have X2 := Lib.hid (And.intro (And.intro k2 o2) b2)
  clear hS k1 k2 o2 b2 hst3
  go_wp2
  refine ⟨_, X2.out, stab_and (stab_and (stab_heap _ _) stab_owns) (stab_below (Nat.le_refl _)), ?_⟩
  try simp only [act_norm]
  clear X2 c1 g1
  refine wpAnyE_done (by kernel_rfl) (fun wd4 hS => ?_) _
  go_wp2
  go_ret
  exact ⟨w.heap.size, _, rfl, Nat.le_refl _, hS.1.1, hS.1.2, hS.2⟩

/-- All things of a ring. -/
theorem ringI_all {w : World} {B r : Nat} {v : Value} {room first n : Nat} {xs : List Value} (h : RingAt 102 1 w B r v room first n xs) (hn : n ≤ 4096) (hf : first < n ∨ first = 0) (h1 : ∀ u ∈ xs, u.oneCell' = true) :
    Calls Try.prog 72 #[.pointer (some ⟨r, 0, none⟩)] w (AllOf 98 48 w n 1 (rot first xs)) := by
  by_cases h0 : n = 0
  · subst h0
    obtain rfl : first = 0 := by omega
    obtain rfl := h.void rfl
    obtain rfl : xs = [] := List.eq_nil_of_length_eq_zero (by simpa using h.owns.1)
    exact ringI_all_zero h rfl
  · obtain ⟨g, cap, rfl, _, _, _, hc⟩ := h.slice (by omega)
    exact ringI_all_some h hn (by omega) hc h1
end Go.Proofs.Ytjbapfdgkaiehaa
