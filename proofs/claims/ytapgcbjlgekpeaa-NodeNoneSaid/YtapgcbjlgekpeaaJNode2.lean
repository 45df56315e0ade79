/- Layer 17: the node to which something may be done. -/
import Derived.Test.YtapgcbjlgekpeaaJNode
namespace Go.Proofs.Ytapgcbjlgekpeaa
open Go.ChangeShapes Go.WideShapes Go.ChangeAt Go.RowKit

theorem NS.row_up (x : NS) (fz : Bool) (s h : Nat) : (x.row fz s h).setIfInBounds 7 (.int .i64 ((x.ver : Int) + 1)) = x.up.row fz s h := by
  unfold NS.row NS.up
  simp
section
variable {w : World} {B rs rh : Nat} {i : NI} {x : NS}
theorem node_next_open (h : NodeAt w B i rs rh false x) (hv : x.ver ≤ 100000) : Calls Try.prog 134 #[i.ptr] w fun e w' => ∃ j : NI, e = .returned j.ptr ∧ NodeOf w B i false rs rh false x.up j w' ∧ ∀ k, j.foot k → i.may false k ∨ w.heap.size ≤ k := by
  have c8 := h.cell 8 (c := .bool false) rfl
  have c7 := h.cell 7 (c := .int .i64 x.ver) rfl
  have f7 := h.free 7
  have H := Lib.hid h
  have HR := Lib.hid (NS.row_up x false i.s i.h)
  show Calls Try.prog 134 #[.pointer (some ⟨i.nb, 0, none⟩)] w _
  obtain ⟨n, en⟩ : ∃ n, n = x.ver := ⟨_, rfl⟩
  rw [← en] at c7 hv HR
  clear h en
  go_enter Try.func134, Try.ntmps134
  go_wp2
  go_ret
  have ht : Turned (fun k => k = i.nb) w (w.setCell ⟨i.nb, 7, none⟩ (.int .i64 ((n : Int) + 1))) := (Turned.refl (S := fun k => k = i.nb)).setCell _ (fun _ => rfl)
  exact ⟨i, rfl, ⟨H.out.own ht (by rw [heap_setCell_same _ _ _ _ _ _ H.out.row, HR.out]) rfl rfl, ht.mono (fun k _ e => ⟨rfl, .inl e⟩), .inr rfl⟩, fun k hk => .inl ⟨rfl, hk⟩⟩

set_option maxHeartbeats 1000000 in
set_option maxRecDepth 100000 in
theorem node_next_frozen (h : NodeAt w B i rs rh true x) (hv : x.ver ≤ 100000) (hB : B ≤ w.heap.size) : Calls Try.prog 134 #[i.ptr] w fun e w' => ∃ j : NI, e = .returned j.ptr ∧ NodeOf w B i true rs rh false x.up j w' ∧ ∀ k, j.foot k → i.may true k ∨ w.heap.size ≤ k := by
  have c8 := h.cell 8 (c := .bool true) rfl
  have H := Lib.hid h
  have hst := stab_and (stab_node (B := B) (i := i) (rs := rs) (rh := rh) (fz := true) (x := x)) (stab_below (B := w.heap.size) (w0 := w) (Nat.le_refl _))
  show Calls Try.prog 134 #[.pointer (some ⟨i.nb, 0, none⟩)] w _
  clear h
  go_enter Try.func134, Try.ntmps134
  go_wp2_with fail
  refine wp_region_E mixed [] hst ⟨H.out.below (below_drew (Below.refl _ _)), below_drew (Below.refl _ _)⟩ ?_
  refine wpAnyE_take 0 rfl (by kernel_rfl) (by kernel_rfl) (by kernel_rfl) (fun _ _ _ h => h) hst (EffB.pure rfl (fun _ => rfl)) (.inr (EffB.pure rfl (fun _ => rfl))) ?_
  simp only [act_norm]
  refine wpAnyE_take 1 (v := .pointer (some ⟨i.nb, 0, none⟩)) rfl (by kernel_rfl) (by kernel_rfl) (by kernel_rfl) (fun _ _ _ h => h) hst (EffB.run rfl rfl (fun wd hS => ?_)) (.inr (EffB.run rfl rfl (fun wd hS => ?_))) ?_
  · (go_wp2; exact ⟨rfl, Below.refl _ _⟩)
  · (go_wp2; exact ⟨rfl, Below.refl _ _⟩)
  simp only [act_norm]
  refine wpAnyE_take 2 (v := .pointer (some ⟨i.nb, 0, none⟩)) rfl (by kernel_rfl) (by kernel_rfl) (by kernel_rfl) (fun _ _ _ h => h) hst (EffB.run rfl rfl (fun wd hS => ?_)) (.inr (EffB.run rfl rfl (fun wd hS => ?_))) ?_
  · (go_wp2; exact ⟨rfl, Below.refl _ _⟩)
  · (go_wp2; exact ⟨rfl, Below.refl _ _⟩)
  simp only [act_norm]
  refine wpAnyE_take 3 (v := .agg #[.int .i64 x.pol.mn, .int .i64 x.pol.mx, .int .i64 x.pol.tg, .int .i64 x.pol.tl, .int .i64 x.pol.wi, .int .i64 x.pol.ho, .bool x.ruled, .int .i64 x.ver]) rfl (by kernel_rfl) (by kernel_rfl) (by kernel_rfl) (fun _ _ _ h => h) hst (EffB.run rfl rfl (fun wd hS => ?_)) (.inl (by kernel_rfl)) ?_
  · (have c0 := hS.1.cell 0 rfl; have c1 := hS.1.cell 1 rfl; have c2 := hS.1.cell 2 rfl; have c3 := hS.1.cell 3 rfl; have c4 := hS.1.cell 4 rfl; have c5 := hS.1.cell 5 rfl; have c6 := hS.1.cell 6 (c := .bool x.ruled) rfl; have c7 := hS.1.cell 7 (c := .int .i64 x.ver) rfl; go_wp2; exact ⟨rfl, Below.refl _ _⟩)
  simp only [act_norm]
  refine wpAnyE_take 4 rfl (by kernel_rfl) (by kernel_rfl) (by kernel_rfl) (fun _ _ _ h => h) hst (EffB.pure rfl (fun _ => rfl)) (.inr (EffB.pure rfl (fun _ => rfl))) ?_
  simp only [act_norm]
  refine wpAnyE_take 5 (v := .pointer (some ⟨i.nb, 0, none⟩)) rfl (by kernel_rfl) (by kernel_rfl) (by kernel_rfl) (fun _ _ _ h => h) hst (EffB.run rfl rfl (fun wd hS => ?_)) (.inr (EffB.run rfl rfl (fun wd hS => ?_))) ?_
  · (go_wp2; exact ⟨rfl, Below.refl _ _⟩)
  · (go_wp2; exact ⟨rfl, Below.refl _ _⟩)
  simp only [act_norm]
  refine wpAnyE_take 6 (v := .pointer (some ⟨i.nb, 9, none⟩)) rfl (by kernel_rfl) (by kernel_rfl) (by kernel_rfl) (fun _ _ _ h => h) hst (EffB.run rfl rfl (fun wd hS => ?_)) (.inr (EffB.run rfl rfl (fun wd hS => ?_))) ?_
  · (go_wp2; exact ⟨rfl, Below.refl _ _⟩)
  · (go_wp2; exact ⟨rfl, Below.refl _ _⟩)
  simp only [act_norm]
  refine wpAnyE_take 7 (v := .pointer (some ⟨i.s, 0, none⟩)) rfl (by kernel_rfl) (by kernel_rfl) (by kernel_rfl) (fun _ _ _ h => h) hst (EffB.run rfl rfl (fun wd hS => ?_)) (.inl (by kernel_rfl)) ?_
  · (have c9 := hS.1.cell 9 (c := .pointer (some ⟨i.s, 0, none⟩)) rfl; go_wp2; exact ⟨rfl, Below.refl _ _⟩)
  simp only [act_norm]
  refine wpAnyE_take 9 rfl (by kernel_rfl) (by kernel_rfl) (by kernel_rfl) (fun _ _ _ h => h) hst (EffB.pure rfl (fun _ => rfl)) (.inr (EffB.pure rfl (fun _ => rfl))) ?_
  simp only [act_norm]
  refine wpAnyE_take 10 (v := .pointer (some ⟨i.nb, 0, none⟩)) rfl (by kernel_rfl) (by kernel_rfl) (by kernel_rfl) (fun _ _ _ h => h) hst (EffB.run rfl rfl (fun wd hS => ?_)) (.inr (EffB.run rfl rfl (fun wd hS => ?_))) ?_
  · (go_wp2; exact ⟨rfl, Below.refl _ _⟩)
  · (go_wp2; exact ⟨rfl, Below.refl _ _⟩)
  simp only [act_norm]
  refine wpAnyE_take 11 (v := .pointer (some ⟨i.nb, 10, none⟩)) rfl (by kernel_rfl) (by kernel_rfl) (by kernel_rfl) (fun _ _ _ h => h) hst (EffB.run rfl rfl (fun wd hS => ?_)) (.inr (EffB.run rfl rfl (fun wd hS => ?_))) ?_
  · (go_wp2; exact ⟨rfl, Below.refl _ _⟩)
  · (go_wp2; exact ⟨rfl, Below.refl _ _⟩)
  simp only [act_norm]
  refine wpAnyE_take 12 (v := .pointer (some ⟨i.h, 0, none⟩)) rfl (by kernel_rfl) (by kernel_rfl) (by kernel_rfl) (fun _ _ _ h => h) hst (EffB.run rfl rfl (fun wd hS => ?_)) (.inl (by kernel_rfl)) ?_
  · (have c10 := hS.1.cell 10 (c := .pointer (some ⟨i.h, 0, none⟩)) rfl; go_wp2; exact ⟨rfl, Below.refl _ _⟩)
  simp only [act_norm]
  refine wpAnyE_one 8 rfl (by kernel_rfl) rfl (fun wd hS => ?_)
  go_wp2_with fail
  (with_reducible refine (ser_clone hS.1.ser).mono ?_)
  rintro e w2 ⟨s2, v2, rfl, hs2, hb2⟩
  have hs3 := hs2.lift hS.2.size
  have hst2 := stab_and hst (stab_ser (B := w.heap.size) (s := s2) (v := v2) (room := rs) (L := x.sa))
  refine ⟨_, ⟨hst _ _ hS hb2, hs3⟩, hst2, (by first | exact fun _ h => h.1 | exact .inr fun _ h => h.1), ?_⟩
  clear hS hs2 hs3 hb2 hst
  try simp only [act_norm]
  have hst := hst2
  clear hst2
  refine wpAnyE_one 13 rfl (by kernel_rfl) rfl (fun wd hS => ?_)
  go_wp2_with fail
  (with_reducible refine (hist_clone hS.1.1.his).mono ?_)
  rintro e w3 ⟨h2, r2, u2, rfl, hh2, hb3⟩
  have hsl : ∀ k, (k = s2 ∨ v2.ownBlock = some k) → k < wd.heap.size := fun k hk => by
    rcases hk with rfl | hk
    · exact hS.2.lt
    · exact (hS.2.owns.lt k hk).2
  have hhl : ∀ k, (k = h2 ∨ k = r2 ∨ u2.ownBlock = some k) → wd.heap.size ≤ k := fun k hk => by
    rcases hk with rfl | rfl | hk
    · exact hh2.low
    · exact hh2.ring.apart.2.1
    · exact hh2.ring.apart.2.2 k hk
  have AP := Lib.hid (And.intro hsl hhl)
  obtain ⟨N2, hN2⟩ : ∃ N, N = wd.heap.size := ⟨_, rfl⟩
  rw [← hN2] at AP
  have hh3 := hh2.lift hS.1.2.size
  have hst2 := stab_and hst (stab_hist (B := w.heap.size) (h := h2) (r := r2) (v := u2) (room := rh) (L := x.pa))
  refine ⟨_, ⟨hst _ _ hS hb3, hh3⟩, hst2, (by first | exact fun _ h => h.1 | exact .inr fun _ h => h.1), ?_⟩
  clear hS hh2 hh3 hb3 hst hsl hhl hN2
  try simp only [act_norm]
  have hst := hst2
  clear hst2
  refine wpAnyE_take 14 (v := .agg #[.int .i64 x.pol.mn, .int .i64 x.pol.mx, .int .i64 x.pol.tg, .int .i64 x.pol.tl, .int .i64 x.pol.wi, .int .i64 x.pol.ho, .bool x.ruled, .int .i64 x.ver, .bool false, .pointer (some ⟨s2, 0, none⟩), .pointer (some ⟨h2, 0, none⟩)]) rfl (by kernel_rfl) (by kernel_rfl) (by kernel_rfl) (fun _ _ _ h => h) hst (EffB.run rfl rfl (fun wd hS => ?_)) (.inr (EffB.run rfl rfl (fun wd hS => ?_))) ?_
  · (go_wp2; exact ⟨rfl, Below.refl _ _⟩)
  · (go_wp2; exact ⟨rfl, Below.refl _ _⟩)
  simp only [act_norm]
  refine wpAnyE_one 15 rfl (by kernel_rfl) rfl (fun wd hS => ?_)
  have hst2 := stab_and hst (stab_heap wd.heap.size (.cells (x.row false s2 h2) 142 (0, 0)))
  have Y1 := Lib.hid (And.intro (hst _ _ hS (below1 wd (.cells (x.row false s2 h2) 142))) (heap_alloc_at wd (.cells (x.row false s2 h2) 142) wd.heap.size rfl))
  have XL : Hid ((∀ k, (k = s2 ∨ v2.ownBlock = some k) → k < wd.heap.size) ∧ (∀ k, (k = h2 ∨ k = r2 ∨ u2.ownBlock = some k) → k < wd.heap.size) ∧ w.heap.size ≤ wd.heap.size) := by
    refine ⟨fun k hk => ?_, fun k hk => ?_, hS.1.1.2.size⟩
    · rcases hk with rfl | hk
      · exact hS.1.2.lt
      · exact (hS.1.2.owns.lt k hk).2
    · rcases hk with rfl | rfl | hk
      · exact lt_of_heap hS.2.row
      · exact hS.2.ring.lt.1
      · exact hS.2.ring.lt.2 k hk
  clear hS
  go_wp2
  refine ⟨_, Y1.out, hst2, (by first | exact fun _ h => h.1 | exact .inr fun _ h => h.1), ?_⟩
  obtain ⟨X, hX⟩ : ∃ X, wd.heap.size = X := ⟨_, rfl⟩
  rw [hX] at hst2 XL ⊢
  clear Y1 hst hX
  try simp only [act_norm]
  have hst := hst2
  clear hst2
  refine wpAnyE_take 16 rfl (by kernel_rfl) (by kernel_rfl) (by kernel_rfl) (fun _ _ _ h => h) hst (EffB.pure rfl (fun _ => rfl)) (.inr (EffB.pure rfl (fun _ => rfl))) ?_
  simp only [act_norm]
  refine wpAnyE_done (by kernel_rfl) (fun wd hS => ?_) _
  have hN : NodeAt wd w.heap.size ⟨X, s2, v2, h2, r2, u2⟩ rs rh false x :=
    ⟨XL.out.2.2, hS.2, hS.1.1.2, hS.1.2, fun k hk => Nat.ne_of_lt (XL.out.1 k hk), fun k hk => Nat.ne_of_lt (XL.out.2.1 k hk), fun k hk hk2 => by have := AP.out.1 k hk; have := AP.out.2 k hk2; omega⟩
  have HN := Lib.hid hN
  have BF := Lib.hid hS.1.1.1.2
  have c7 := hN.cell 7 (c := .int .i64 x.ver) rfl
  have f7 := hN.free 7
  simp only at c7 f7
  have HR := Lib.hid (NS.row_up x false s2 h2)
  obtain ⟨n, en⟩ : ∃ n, n = x.ver := ⟨_, rfl⟩
  rw [← en] at c7 hv HR
  clear hS hN hst en
  go_wp2
  go_ret
  have ht : Turned (fun k => k = X) wd (wd.setCell ⟨X, 7, none⟩ (.int .i64 ((n : Int) + 1))) := (Turned.refl (S := fun k => k = X)).setCell _ (fun _ => rfl)
  have hfin := HN.out.own (y := x.up) (fz2 := false) ht (by rw [heap_setCell_same _ _ _ _ _ _ HN.out.row, HR.out]) rfl rfl
  have hfoot : ∀ k, NI.foot ⟨X, s2, v2, h2, r2, u2⟩ k → w.heap.size ≤ k := fun k hk => (HN.out.lt k hk).1
  exact ⟨⟨X, s2, v2, h2, r2, u2⟩, rfl, ⟨hfin.lift hB, ((Turned.of_below BF.out).trans ht (S := i.may true) (fun k hk e => by have := XL.out.2.2; omega)), .inl fun k hk => .inr (hfoot k hk)⟩, fun k hk => .inr (hfoot k hk)⟩

theorem node_next {fz : Bool} (h : NodeAt w B i rs rh fz x) (hv : x.ver ≤ 100000) (hB : B ≤ w.heap.size) : Calls Try.prog 134 #[i.ptr] w fun e w' => ∃ j : NI, e = .returned j.ptr ∧ NodeOf w B i fz rs rh false x.up j w' ∧ ∀ k, j.foot k → i.may fz k ∨ w.heap.size ≤ k := by
  cases fz with
  | false => exact node_next_open h hv
  | true => exact node_next_frozen h hv hB
end
end Go.Proofs.Ytapgcbjlgekpeaa
