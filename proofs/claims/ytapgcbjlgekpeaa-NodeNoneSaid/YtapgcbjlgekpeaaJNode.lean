/- Layer 17: what a node tells; it is frozen. -/
import Derived.Test.YtapgcbjlgekpeaaJNodeD
import Derived.Test.YtapgcbjlgekpeaaJLaws16
import Derived.Test.YtapgcbjlgekpeaaJBase
import Derived.Deep.MidRow
namespace Go.Proofs.Ytapgcbjlgekpeaa
open Go.ChangeShapes Go.WideShapes Go.ChangeAt Go.RowKit

theorem turned_setRowN (w : World) (g : Nat) (cs : Array Value) : Turned (fun k => k = g) w (w.setRow g cs) := ⟨rfl, rfl, rfl, by simp, fun k _ hk => setRow_other w g k cs hk⟩
theorem stab_row6 {n : Nat} : Stab (fun w' : World => ∃ cs : Array Value, cs.size = 6 ∧ w'.heap[n]? = some (.cells cs 25 (0, 0))) := fun _ _ ⟨cs, h1, h2⟩ hb => ⟨cs, h1, (hb.block _ (lt_of_heap h2)).trans h2⟩
section
variable {w : World} {B rs rh : Nat} {i : NI} {fz : Bool} {x : NS}
theorem node_made (h : NodeAt w B i rs rh fz x) : Calls Try.prog 91 #[i.ptr] w fun e w' => e = .returned (.bool true) ∧ w = w' := by
  have c9 := h.cell 9 (c := .pointer (some ⟨i.s, 0, none⟩)) rfl
  show Calls Try.prog 91 #[.pointer (some ⟨i.nb, 0, none⟩)] w _
  clear h
  go_enter Try.func91, Try.ntmps91
  go_wp2
  go_ret
  exact ⟨rfl, rfl⟩
theorem node_made_nil (w : World) : Calls Try.prog 91 #[.pointer none] w fun e w' => e = .returned (.bool false) ∧ w = w' := by
  go_enter Try.func91, Try.ntmps91
  go_wp2
  go_ret
  exact ⟨rfl, rfl⟩
theorem node_frozen (h : NodeAt w B i rs rh fz x) : Calls Try.prog 21 #[i.ptr] w fun e w' => e = .returned (.bool fz) ∧ w = w' := by
  have c8 := h.cell 8 (c := .bool fz) rfl
  show Calls Try.prog 21 #[.pointer (some ⟨i.nb, 0, none⟩)] w _
  clear h
  go_enter Try.func21, Try.ntmps21
  go_wp2
  go_ret
  exact ⟨rfl, rfl⟩
theorem node_frozen_nil (w : World) : Calls Try.prog 21 #[.pointer none] w fun e w' => e = .returned (.bool false) ∧ w = w' := by
  go_enter Try.func21, Try.ntmps21
  go_wp2
  go_ret
  exact ⟨rfl, rfl⟩
theorem node_version (h : NodeAt w B i rs rh fz x) : Calls Try.prog 75 #[i.ptr] w fun e w' => e = .returned (.int .i64 x.ver) ∧ w = w' := by
  have c7 := h.cell 7 (c := .int .i64 x.ver) rfl
  show Calls Try.prog 75 #[.pointer (some ⟨i.nb, 0, none⟩)] w _
  clear h
  go_enter Try.func75, Try.ntmps75
  go_wp2
  go_ret
  exact ⟨rfl, rfl⟩
theorem node_version_nil (w : World) : Calls Try.prog 75 #[.pointer none] w fun e w' => e = .returned (.int .i64 0) ∧ w = w' := by
  go_enter Try.func75, Try.ntmps75
  go_wp2
  go_ret
  exact ⟨rfl, rfl⟩
theorem node_samples (h : NodeAt w B i rs rh fz x) : Calls Try.prog 76 #[i.ptr] w fun e w' => ∃ p c, e = .returned (.slice p x.sa.length c) ∧ x.sa.length ≤ c ∧ Samps w' p x.sa ∧ Below w.heap.size w w' := by
  have c9 := h.cell 9 (c := .pointer (some ⟨i.s, 0, none⟩)) rfl
  have P := Lib.hid (ser_list h.ser)
  show Calls Try.prog 76 #[.pointer (some ⟨i.nb, 0, none⟩)] w _
  obtain ⟨n, en⟩ : ∃ n, n = x.sa.length := ⟨_, rfl⟩
  rw [← en] at P ⊢
  clear h en
  go_enter Try.func76, Try.ntmps76
  go_wp2_with fail
  (with_reducible refine P.out.mono ?_)
  rintro e w1 ⟨p, c, rfl, h1, h2, h3⟩
  have H := Lib.hid (And.intro h1 (And.intro h2 h3))
  clear h1 h2 h3
  go_wp2
  go_ret
  exact ⟨p, c, rfl, H.out⟩
theorem node_samples_nil (w : World) : Calls Try.prog 76 #[.pointer none] w fun e w' => e = .returned (.slice none 0 0) ∧ w = w' := by
  go_enter Try.func76, Try.ntmps76
  go_wp2
  go_ret
  exact ⟨rfl, rfl⟩
theorem node_past (h : NodeAt w B i rs rh fz x) : Calls Try.prog 89 #[i.ptr] w fun e w' => ∃ p c, e = .returned (.slice p x.pa.length c) ∧ x.pa.length ≤ c ∧ Advs w' p x.pa ∧ Below w.heap.size w w' := by
  have c10 := h.cell 10 (c := .pointer (some ⟨i.h, 0, none⟩)) rfl
  have P := Lib.hid (hist_list h.his)
  show Calls Try.prog 89 #[.pointer (some ⟨i.nb, 0, none⟩)] w _
  obtain ⟨n, en⟩ : ∃ n, n = x.pa.length := ⟨_, rfl⟩
  rw [← en] at P ⊢
  clear h en
  go_enter Try.func89, Try.ntmps89
  go_wp2_with fail
  (with_reducible refine P.out.mono ?_)
  rintro e w1 ⟨p, c, rfl, h1, h2, h3⟩
  have H := Lib.hid (And.intro h1 (And.intro h2 h3))
  clear h1 h2 h3
  go_wp2
  go_ret
  exact ⟨p, c, rfl, H.out⟩
theorem node_past_nil (w : World) : Calls Try.prog 89 #[.pointer none] w fun e w' => e = .returned (.slice none 0 0) ∧ w = w' := by
  go_enter Try.func89, Try.ntmps89
  go_wp2
  go_ret
  exact ⟨rfl, rfl⟩

set_option maxRecDepth 100000 in
theorem node_policy (h : NodeAt w B i rs rh fz x) : Calls Try.prog 87 #[i.ptr] w fun e w' => e = .returned (.tuple #[.agg #[.int .i64 x.pol.mn, .int .i64 x.pol.mx, .int .i64 x.pol.tg, .int .i64 x.pol.tl, .int .i64 x.pol.wi, .int .i64 x.pol.ho], .bool x.ruled]) ∧ Below w.heap.size w w' := by
  have hst := stab_and (stab_and (stab_node (B := B) (i := i) (rs := rs) (rh := rh) (fz := fz) (x := x)) (stab_below (B := w.heap.size) (w0 := w) (Nat.le_refl _))) (stab_row6 (n := w.heap.size))
  have H := Lib.hid (h.below (below1 w (.cells #[.int .i64 0, .int .i64 0, .int .i64 0, .int .i64 0, .int .i64 0, .int .i64 0] 25)))
  have HLT := Lib.hid h.lt
  show Calls Try.prog 87 #[.pointer (some ⟨i.nb, 0, none⟩)] w _
  clear h
  go_enter Try.func87, Try.ntmps87
  go_wp2_with fail
  refine wp_region_E mixed [] hst ⟨⟨H.out.below (below_drew (Below.refl _ _)), below_drew (below1 _ _)⟩, ⟨_, rfl, heap_alloc_at _ _ _ rfl⟩⟩ ?_
  refine wpAnyE_take 0 rfl (by kernel_rfl) (by kernel_rfl) (by kernel_rfl) (fun _ _ _ h => h) hst (EffB.pure rfl (fun _ => rfl)) (.inr (EffB.pure rfl (fun _ => rfl))) ?_
  simp only [act_norm]
  refine wpAnyE_take 1 (v := .pointer (some ⟨i.nb, 0, none⟩)) rfl (by kernel_rfl) (by kernel_rfl) (by kernel_rfl) (fun _ _ _ h => h) hst (EffB.run rfl rfl (fun wd hS => ?_)) (.inr (EffB.run rfl rfl (fun wd hS => ?_))) ?_
  · (go_wp2; exact ⟨rfl, Below.refl _ _⟩)
  · (go_wp2; exact ⟨rfl, Below.refl _ _⟩)
  simp only [act_norm]
  refine wpAnyE_take 2 (v := .pointer (some ⟨i.nb, 0, none⟩)) rfl (by kernel_rfl) (by kernel_rfl) (by kernel_rfl) (fun _ _ _ h => h) hst (EffB.run rfl rfl (fun wd hS => ?_)) (.inr (EffB.run rfl rfl (fun wd hS => ?_))) ?_
  · (go_wp2; exact ⟨rfl, Below.refl _ _⟩)
  · (go_wp2; exact ⟨rfl, Below.refl _ _⟩)
  simp only [act_norm]
  refine wpAnyE_take 3 (v := .pointer (some ⟨i.nb, 0, none⟩)) rfl (by kernel_rfl) (by kernel_rfl) (by kernel_rfl) (fun _ _ _ h => h) hst (EffB.run rfl rfl (fun wd hS => ?_)) (.inr (EffB.run rfl rfl (fun wd hS => ?_))) ?_
  · (go_wp2; exact ⟨rfl, Below.refl _ _⟩)
  · (go_wp2; exact ⟨rfl, Below.refl _ _⟩)
  simp only [act_norm]
  refine wpAnyE_take 4 (v := .agg #[.int .i64 x.pol.mn, .int .i64 x.pol.mx, .int .i64 x.pol.tg, .int .i64 x.pol.tl, .int .i64 x.pol.wi, .int .i64 x.pol.ho]) rfl (by kernel_rfl) (by kernel_rfl) (by kernel_rfl) (fun _ _ _ h => h) hst (EffB.run rfl rfl (fun wd hS => ?_)) (.inl (by kernel_rfl)) ?_
  · (have c0 := hS.1.1.cell 0 rfl; have c1 := hS.1.1.cell 1 rfl; have c2 := hS.1.1.cell 2 rfl; have c3 := hS.1.1.cell 3 rfl; have c4 := hS.1.1.cell 4 rfl; have c5 := hS.1.1.cell 5 rfl; go_wp2; exact ⟨rfl, Below.refl _ _⟩)
  simp only [act_norm]
  refine wpAnyE_take 5 rfl (by kernel_rfl) (by kernel_rfl) (by kernel_rfl) (fun _ _ _ h => h) hst (EffB.pure rfl (fun _ => rfl)) (.inr (EffB.pure rfl (fun _ => rfl))) ?_
  simp only [act_norm]
  refine wpAnyE_take 6 (v := .pointer (some ⟨i.nb, 0, none⟩)) rfl (by kernel_rfl) (by kernel_rfl) (by kernel_rfl) (fun _ _ _ h => h) hst (EffB.run rfl rfl (fun wd hS => ?_)) (.inr (EffB.run rfl rfl (fun wd hS => ?_))) ?_
  · (go_wp2; exact ⟨rfl, Below.refl _ _⟩)
  · (go_wp2; exact ⟨rfl, Below.refl _ _⟩)
  simp only [act_norm]
  refine wpAnyE_take 7 (v := .pointer (some ⟨i.nb, 0, none⟩)) rfl (by kernel_rfl) (by kernel_rfl) (by kernel_rfl) (fun _ _ _ h => h) hst (EffB.run rfl rfl (fun wd hS => ?_)) (.inr (EffB.run rfl rfl (fun wd hS => ?_))) ?_
  · (go_wp2; exact ⟨rfl, Below.refl _ _⟩)
  · (go_wp2; exact ⟨rfl, Below.refl _ _⟩)
  simp only [act_norm]
  refine wpAnyE_take 8 (v := .pointer (some ⟨i.nb, 6, none⟩)) rfl (by kernel_rfl) (by kernel_rfl) (by kernel_rfl) (fun _ _ _ h => h) hst (EffB.run rfl rfl (fun wd hS => ?_)) (.inr (EffB.run rfl rfl (fun wd hS => ?_))) ?_
  · (go_wp2; exact ⟨rfl, Below.refl _ _⟩)
  · (go_wp2; exact ⟨rfl, Below.refl _ _⟩)
  simp only [act_norm]
  refine wpAnyE_take 9 (v := .bool x.ruled) rfl (by kernel_rfl) (by kernel_rfl) (by kernel_rfl) (fun _ _ _ h => h) hst (EffB.run rfl rfl (fun wd hS => ?_)) (.inl (by kernel_rfl)) ?_
  · (have c6 := hS.1.1.cell 6 (c := .bool x.ruled) rfl; go_wp2; exact ⟨rfl, Below.refl _ _⟩)
  simp only [act_norm]
  refine wpAnyE_one 10 rfl (by kernel_rfl) rfl (fun wd hS => ?_)
  obtain ⟨old, hold, hrow⟩ := hS.2
  refine wp_store_row 25 _ _ rfl w.heap.size #[.int .i64 x.pol.mn, .int .i64 x.pol.mx, .int .i64 x.pol.tg, .int .i64 x.pol.tl, .int .i64 x.pol.wi, .int .i64 x.pol.ho] rfl rfl 25 old hrow polInfo hold (by simp [Value.oneCell']) ?_
  have Y := Lib.hid (And.intro (And.intro (hS.1.1.turned (turned_setRowN wd w.heap.size #[.int .i64 x.pol.mn, .int .i64 x.pol.mx, .int .i64 x.pol.tg, .int .i64 x.pol.tl, .int .i64 x.pol.wi, .int .i64 x.pol.ho]) (fun k hk e => by have := (HLT.out k hk).2; omega)) (below_setRow hS.1.2 (Nat.le_refl _) #[.int .i64 x.pol.mn, .int .i64 x.pol.mx, .int .i64 x.pol.tg, .int .i64 x.pol.tl, .int .i64 x.pol.wi, .int .i64 x.pol.ho])) (setRow_heap _ _ _ #[.int .i64 x.pol.mn, .int .i64 x.pol.mx, .int .i64 x.pol.tg, .int .i64 x.pol.tl, .int .i64 x.pol.wi, .int .i64 x.pol.ho] _ _ hrow))
  clear hS hrow hold
  refine ⟨fun w' => (NodeAt w' B i rs rh fz x ∧ Below w.heap.size w w') ∧ w'.heap[w.heap.size]? = some (.cells #[.int .i64 x.pol.mn, .int .i64 x.pol.mx, .int .i64 x.pol.tg, .int .i64 x.pol.tl, .int .i64 x.pol.wi, .int .i64 x.pol.ho] 25 (0, 0)), Y.out, stab_and (stab_and stab_node (stab_below (Nat.le_refl _))) (stab_heap _ _), (by first | exact fun _ h => ⟨h.1, _, rfl, h.2⟩ | exact .inr fun _ h => ⟨h.1, _, rfl, h.2⟩), ?_⟩
  clear Y hst
  try simp only [act_norm]
  have hst := stab_and (stab_and (stab_node (B := B) (i := i) (rs := rs) (rh := rh) (fz := fz) (x := x)) (stab_below (B := w.heap.size) (w0 := w) (Nat.le_refl _))) (stab_heap w.heap.size (.cells #[.int .i64 x.pol.mn, .int .i64 x.pol.mx, .int .i64 x.pol.tg, .int .i64 x.pol.tl, .int .i64 x.pol.wi, .int .i64 x.pol.ho] 25 (0, 0)))
  refine wpAnyE_take 11 rfl (by kernel_rfl) (by kernel_rfl) (by kernel_rfl) (fun _ _ _ h => h) hst (EffB.pure rfl (fun _ => rfl)) (.inr (EffB.pure rfl (fun _ => rfl))) ?_
  simp only [act_norm]
  refine wpAnyE_done (by kernel_rfl) (fun wd hS => ?_) _
  have HF := Lib.hid hS
  clear hS
  go_wp2
  exact bodyPost_ret (results_row_tmp rfl _ _ w.heap.size 25 #[.int .i64 x.pol.mn, .int .i64 x.pol.mx, .int .i64 x.pol.tg, .int .i64 x.pol.tl, .int .i64 x.pol.wi, .int .i64 x.pol.ho] (0, 0) _ 6 _ rfl rfl HF.out.2 Try.underlying25 rfl polInfo rfl) rfl ⟨rfl, HF.out.1.2⟩

theorem node_freeze (h : NodeAt w B i rs rh fz x) : Calls Try.prog 24 #[i.ptr] w fun e w' => e = .returned i.ptr ∧ NodeOf w B i fz rs rh true x i w' := by
  have P := Lib.hid (node_made h)
  have c8 := h.cell 8 (c := .bool fz) rfl
  have f8 := h.free 8
  have H := Lib.hid h
  show Calls Try.prog 24 #[.pointer (some ⟨i.nb, 0, none⟩)] w _
  clear h
  cases fz with
  | true =>
    go_enter Try.func24, Try.ntmps24
    go_wp2_with ((with_reducible refine P.out.mono ?_); rintro e w1 ⟨rfl, rfl⟩)
    go_ret
    exact ⟨rfl, NodeOf.self H.out (Below.refl _ _)⟩
  | false =>
    go_enter Try.func24, Try.ntmps24
    go_wp2_with ((with_reducible refine P.out.mono ?_); rintro e w1 ⟨rfl, rfl⟩)
    go_ret
    have ht : Turned (fun k => k = i.nb) w (w.setCell ⟨i.nb, 8, none⟩ (.bool true)) := (Turned.refl (S := fun k => k = i.nb)).setCell _ (fun _ => rfl)
    exact ⟨rfl, H.out.own ht (by rw [heap_setCell_same _ _ _ _ _ _ H.out.row]; rfl) rfl rfl, ht.mono (fun k _ e => ⟨rfl, .inl e⟩), .inr rfl⟩
end
end Go.Proofs.Ytapgcbjlgekpeaa
