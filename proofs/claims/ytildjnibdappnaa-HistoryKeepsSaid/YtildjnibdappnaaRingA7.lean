/- Layer 7: a ring of decisions, cloned. -/
import Derived.Test.YtildjnibdappnaaRingA6
import Derived.WalkSpells
namespace Go.Proofs.Ytildjnibdappnaa
open Go.ChangeShapes Go.WideShapes Go.ChangeAt Go.RowKit

set_option maxRecDepth 100000 in
theorem cloneR_nil (w : World) : Calls Try.prog 78 #[.slice none 0 0] w fun e w' => e = .returned (.slice none 0 0) ∧ w = w' := by
  have hq : ∀ (w : World), (binOp .eql 22 (.slice none 0 0) (.slice none 0 0)).run Try.prog w = .ok (.bool true) w := fun w => Lib.run_eql_slice_nil w 22 24 none 0 0 0 0 Try.underlying22
  go_enter Try.func78, Try.ntmps78
  go_wp2
  go_ret
  exact ⟨rfl, rfl⟩
set_option maxRecDepth 100000 in
theorem cloneR_some (g off n c : Nat) (xs : List Value) (hn : n ≤ 100000) (h1 : ∀ u ∈ xs, u.oneCell' = true) (w : World) (hs : Src w (.slice (some ⟨g, off, none⟩) n c) n 5 xs) :
    Calls Try.prog 78 #[.slice (some ⟨g, off, none⟩) n c] w fun e w' => ∃ v, e = .returned v ∧ Owns w' w.heap.size 5 v n xs ∧ Below w.heap.size w w' := by
  have hq : ∀ (w : World), (binOp .eql 22 (.slice (some ⟨g, off, none⟩) n c) (.slice none 0 0)).run Try.prog w = .ok (.bool false) w := fun w => Lib.run_eql_slice_nil w 22 24 (some ⟨g, off, none⟩) n c 0 0 Try.underlying22
  obtain ⟨p', c', e', hl, hz, hsc⟩ := hs.below (below1 w (.cells #[] 24))
  obtain ⟨rfl, rfl⟩ : p' = some ⟨g, off, none⟩ ∧ c' = c := by simp at e'; exact ⟨e'.1.symm, e'.2.symm⟩
  have HL := Lib.hid hl
  have HC := Lib.hid (fun ad h => (hsc ad h).2)
  have H1 := Lib.hid h1
  have O : Hid (Owns (w.alloc (.cells #[] 24)) w.heap.size 5 (.slice (some ⟨w.heap.size, 0, none⟩) 0 0) 0 []) :=
    ⟨rfl, .inr ⟨w.heap.size, 0, rfl, Nat.le_refl _, by simp, Nat.le_refl _, fun j u hu => by simp at hu, fun j hj => by simp at hj⟩⟩
  clear hl hz hsc e' hs h1
  go_enter Try.func78, Try.ntmps78
  go_wp2_with (at_builtin; refine wpList_append_any2 rfl _ _ 22 rfl w.heap.size 24 (.agg #[.int .i64 0, .int .i64 0, .int .i64 0, .int .i64 0, .int .i64 0]) 5 40 Try.underlying22 advInfo rfl (by decide) _ _ _ rfl O.out _ _ _ xs rfl (by rw [HL.out]) (fun h => by cases h) HC.out H1.out (by unfold maxLen; omega) (by omega) (by simp) ?_; intro u1 x1 ha1 hg1 hw1)
  go_ret
  exact ⟨_, rfl, by simpa using ha1, (below1 w _).grown hg1 (by simp) (fun k hk => Nat.le_of_eq (Option.some.inj (show some w.heap.size = some k from hk)))⟩

theorem RingAt.src5 {TR : TypeId} {w : World} {B r : Nat} {v : Value} {room first n : Nat} {xs : List Value} (h : RingAt TR 5 w B r v room first n xs) : Src w v n 5 xs := by
  by_cases h0 : n = 0
  · subst h0
    obtain rfl := h.void rfl
    obtain rfl : xs = [] := List.eq_nil_of_length_eq_zero (by simpa using h.owns.1)
    exact src_nil _ _
  · obtain ⟨g, cap, rfl, _⟩ := h.slice (by omega)
    have := (Owns.src5 h.owns 0 (by omega)).1
    simpa using this

set_option maxHeartbeats 2000000 in
set_option maxRecDepth 100000 in
theorem ringA_clone_at {w : World} {B r : Nat} {v : Value} {room first n : Nat} {xs : List Value} (h : RingAt 105 5 w B r v room first n xs)
    (hcl : ∀ w', Src w' v n 5 xs → Calls Try.prog 78 #[v] w' fun e w'' => ∃ u, e = .returned u ∧ Owns w'' w'.heap.size 5 u n xs ∧ (n = 0 → u = .slice none 0 0) ∧ Below w'.heap.size w' w'') :
    Calls Try.prog 54 #[.pointer (some ⟨r, 0, none⟩)] w fun e w' => ∃ r' u, e = .returned (.pointer (some ⟨r', 0, none⟩)) ∧ RingAt 105 5 w' w.heap.size r' u room first n xs ∧ Below w.heap.size w w' := by
  have H := Lib.hid h
  obtain ⟨pv, cv, ev, _⟩ := h.owns.sl
  have hst := stab_and (stab_ring (TR := 105) (sz := 5) (B := B) (r := r) (v := v) (room := room) (first := first) (n := n) (xs := xs)) (stab_below (B := w.heap.size) (w0 := w) (Nat.le_refl _))
  have HC := Lib.hid hcl
  clear h hcl
  subst ev
  go_enter Try.func54, Try.ntmps54
  go_wp2
  refine wp_region_E mixed [] hst (hst _ _ ⟨H.out, Below.refl _ _⟩ (below_drew (Below.refl _ _))) ?_
  refine wpAnyE_take 0 rfl (by kernel_rfl) (by kernel_rfl) (by kernel_rfl) (fun _ _ _ h => h) hst (EffB.pure rfl (fun _ => rfl)) (.inr (EffB.pure rfl (fun _ => rfl))) ?_
  simp only [act_norm]
  refine wpAnyE_take 1 (v := .pointer (some ⟨r, 0, none⟩)) rfl (by kernel_rfl) (by kernel_rfl) (by kernel_rfl) (fun _ _ _ h => h) hst (EffB.run rfl rfl (fun wd hS => ?_)) (.inr (EffB.run rfl rfl (fun wd hS => ?_))) ?_
  · (go_wp2; exact ⟨rfl, Below.refl _ _⟩)
  · (go_wp2; exact ⟨rfl, Below.refl _ _⟩)
  simp only [act_norm]
  refine wpAnyE_take 2 (v := .pointer (some ⟨r, 0, none⟩)) rfl (by kernel_rfl) (by kernel_rfl) (by kernel_rfl) (fun _ _ _ h => h) hst (EffB.run rfl rfl (fun wd hS => ?_)) (.inr (EffB.run rfl rfl (fun wd hS => ?_))) ?_
  · (go_wp2; exact ⟨rfl, Below.refl _ _⟩)
  · (go_wp2; exact ⟨rfl, Below.refl _ _⟩)
  simp only [act_norm]
  refine wpAnyE_take 3 (v := .int .i64 room) rfl (by kernel_rfl) (by kernel_rfl) (by kernel_rfl) (fun _ _ _ h => h) hst (EffB.run rfl rfl (fun wd hS => ?_)) (.inl (by kernel_rfl)) ?_
  · (have c2 : wd.cell? ⟨r, 0, none⟩ = some (.int .i64 room) := by rw [cell_of_row _ _ _ _ _ _ (hS.1.row)]; rfl); go_wp2; exact ⟨rfl, Below.refl _ _⟩
  simp only [act_norm]
  refine wpAnyE_take 4 rfl (by kernel_rfl) (by kernel_rfl) (by kernel_rfl) (fun _ _ _ h => h) hst (EffB.pure rfl (fun _ => rfl)) (.inr (EffB.pure rfl (fun _ => rfl))) ?_
  simp only [act_norm]
  refine wpAnyE_take 5 (v := .pointer (some ⟨r, 0, none⟩)) rfl (by kernel_rfl) (by kernel_rfl) (by kernel_rfl) (fun _ _ _ h => h) hst (EffB.run rfl rfl (fun wd hS => ?_)) (.inr (EffB.run rfl rfl (fun wd hS => ?_))) ?_
  · (go_wp2; exact ⟨rfl, Below.refl _ _⟩)
  · (go_wp2; exact ⟨rfl, Below.refl _ _⟩)
  simp only [act_norm]
  refine wpAnyE_take 6 (v := .pointer (some ⟨r, 1, none⟩)) rfl (by kernel_rfl) (by kernel_rfl) (by kernel_rfl) (fun _ _ _ h => h) hst (EffB.run rfl rfl (fun wd hS => ?_)) (.inr (EffB.run rfl rfl (fun wd hS => ?_))) ?_
  · (go_wp2; exact ⟨rfl, Below.refl _ _⟩)
  · (go_wp2; exact ⟨rfl, Below.refl _ _⟩)
  simp only [act_norm]
  refine wpAnyE_take 7 (v := .int .i64 first) rfl (by kernel_rfl) (by kernel_rfl) (by kernel_rfl) (fun _ _ _ h => h) hst (EffB.run rfl rfl (fun wd hS => ?_)) (.inl (by kernel_rfl)) ?_
  · (have c2 : wd.cell? ⟨r, 1, none⟩ = some (.int .i64 first) := by rw [cell_of_row _ _ _ _ _ _ (hS.1.row)]; rfl); go_wp2; exact ⟨rfl, Below.refl _ _⟩
  simp only [act_norm]
  refine wpAnyE_take 8 rfl (by kernel_rfl) (by kernel_rfl) (by kernel_rfl) (fun _ _ _ h => h) hst (EffB.pure rfl (fun _ => rfl)) (.inr (EffB.pure rfl (fun _ => rfl))) ?_
  simp only [act_norm]
  refine wpAnyE_take 9 (v := .pointer (some ⟨r, 0, none⟩)) rfl (by kernel_rfl) (by kernel_rfl) (by kernel_rfl) (fun _ _ _ h => h) hst (EffB.run rfl rfl (fun wd hS => ?_)) (.inr (EffB.run rfl rfl (fun wd hS => ?_))) ?_
  · (go_wp2; exact ⟨rfl, Below.refl _ _⟩)
  · (go_wp2; exact ⟨rfl, Below.refl _ _⟩)
  simp only [act_norm]
  refine wpAnyE_take 10 (v := .pointer (some ⟨r, 2, none⟩)) rfl (by kernel_rfl) (by kernel_rfl) (by kernel_rfl) (fun _ _ _ h => h) hst (EffB.run rfl rfl (fun wd hS => ?_)) (.inr (EffB.run rfl rfl (fun wd hS => ?_))) ?_
  · (go_wp2; exact ⟨rfl, Below.refl _ _⟩)
  · (go_wp2; exact ⟨rfl, Below.refl _ _⟩)
  simp only [act_norm]
  refine wpAnyE_take 11 (v := .slice pv n cv) rfl (by kernel_rfl) (by kernel_rfl) (by kernel_rfl) (fun _ _ _ h => h) hst (EffB.run rfl rfl (fun wd hS => ?_)) (.inl (by kernel_rfl)) ?_
  · (have c2 : wd.cell? ⟨r, 2, none⟩ = some (.slice pv n cv) := by rw [cell_of_row _ _ _ _ _ _ (hS.1.row)]; rfl); go_wp2; exact ⟨rfl, Below.refl _ _⟩
  simp only [act_norm]
  refine wpAnyE_one 12 rfl (by kernel_rfl) rfl (fun wd hS => ?_)
  go_wp2_with fail
  (with_reducible refine (HC.out wd hS.1.src5).mono ?_)
  rintro e w2 ⟨u, rfl, hO, hv, hb⟩
  obtain ⟨pu, cu, rfl, _⟩ := hO.sl
  have hst2 := stab_and hst (stab_owns (B := w.heap.size) (sz := 5) (v := .slice pu n cu) (n := n) (xs := xs))
  refine ⟨_, ⟨hst _ _ hS hb, hO.mono hS.2.size⟩, hst2, (by first | exact fun _ h => h.1 | exact .inr fun _ h => h.1), ?_⟩
  try simp only [act_norm]
  have HV := Lib.hid hv
  clear hS hO hb hst hv
  have hst := hst2
  refine wpAnyE_take 13 (v := .agg #[.int .i64 room, .int .i64 first, .slice pu n cu]) rfl (by kernel_rfl) (by kernel_rfl) (by kernel_rfl) (fun _ _ _ h => h) hst (EffB.run rfl rfl (fun wd hS => ?_)) (.inr (EffB.run rfl rfl (fun wd hS => ?_))) ?_
  · (go_wp2; exact ⟨rfl, Below.refl _ _⟩)
  · (go_wp2; exact ⟨rfl, Below.refl _ _⟩)
  simp only [act_norm]
  refine wpAnyE_one 14 rfl (by kernel_rfl) rfl (fun wd hS => ?_)
  have hra : RingAt 105 5 (wd.alloc (.cells #[.int .i64 room, .int .i64 first, .slice pu n cu] 105)) w.heap.size wd.heap.size (.slice pu n cu) room first n xs :=
    ⟨hS.1.2.size, heap_alloc_at _ _ _ rfl, hS.2.below (below1 _ _), fun e => by have := (hS.2.lt _ e).2; omega, HV.out⟩
  have hbl : Below w.heap.size w (wd.alloc (.cells #[.int .i64 room, .int .i64 first, .slice pu n cu] 105)) := hS.1.2.alloc hS.1.2.size _
  have x0 := hst _ _ hS (below1 wd (.cells #[.int .i64 room, .int .i64 first, .slice pu n cu] 105))
  have X := Lib.hid (And.intro x0 (And.intro hra hbl))
  have hst4 := stab_and hst (stab_and (stab_ring (TR := 105) (sz := 5) (B := w.heap.size) (r := wd.heap.size) (v := .slice pu n cu) (room := room) (first := first) (n := n) (xs := xs)) (stab_below (B := w.heap.size) (w0 := w) (Nat.le_refl _)))
  clear hS hra hbl x0
  go_wp2
  refine ⟨_, X.out, hst4, fun _ h => h.1, ?_⟩
  obtain ⟨X2, hX2⟩ : ∃ X, wd.heap.size = X := ⟨_, rfl⟩
  rw [hX2] at hst4 ⊢
  clear X hst hX2
  try simp only [act_norm]
  have hst := hst4
  refine wpAnyE_take 15 rfl (by kernel_rfl) (by kernel_rfl) (by kernel_rfl) (fun _ _ _ h => h) hst (EffB.pure rfl (fun _ => rfl)) (.inr (EffB.pure rfl (fun _ => rfl))) ?_
  simp only [act_norm]
  refine wpAnyE_done (by kernel_rfl) (fun wd4 hS => ?_) _
  go_wp2
  go_ret
  exact ⟨_, _, rfl, hS.2.1, hS.2.2⟩

theorem ringA_clone {w : World} {B r : Nat} {v : Value} {room : Nat} {L : List Adv} (h : RingA w B r v room L) :
    Calls Try.prog 54 #[.pointer (some ⟨r, 0, none⟩)] w fun e w' => ∃ r' u, e = .returned (.pointer (some ⟨r', 0, none⟩)) ∧ RingA w' w.heap.size r' u room L ∧ Below w.heap.size w w' := by
  obtain ⟨first, ys, h1, h2, h3, h4, h5, h6, h7⟩ := h
  refine (ringA_clone_at h1 (fun w' hs => ?_)).mono ?_
  · by_cases h0 : L.length = 0
    · rw [h0] at h1 hs ⊢
      obtain rfl := h1.void rfl
      have hx : advVals ys = [] := List.eq_nil_of_length_eq_zero (by have := h1.owns.1; simpa using this)
      rw [hx]
      refine (cloneR_nil w').mono ?_
      rintro e w2 ⟨rfl, rfl⟩
      exact ⟨_, rfl, owns_nil _ _ _, fun _ => rfl, Below.refl _ _⟩
    · obtain ⟨g, cap, rfl, _⟩ := h1.slice (by omega)
      refine (cloneR_some g 0 L.length cap (advVals ys) (by omega) (advVals_one ys) w' hs).mono ?_
      rintro e w2 ⟨u, rfl, hO, hb⟩
      exact ⟨u, rfl, hO, fun h => by omega, hb⟩
  · rintro e w' ⟨r', u, rfl, hr, hb⟩
    exact ⟨r', u, rfl, ⟨first, ys, hr, h2, h3, h4, h5, h6, h7⟩, hb⟩
theorem ringA_clone_none (w : World) : Calls Try.prog 54 #[.pointer none] w fun e w' => e = .returned (.pointer none) ∧ w = w' := by
  go_enter Try.func54, Try.ntmps54
  go_wp2
  go_ret
  exact ⟨rfl, rfl⟩
end Go.Proofs.Ytildjnibdappnaa
