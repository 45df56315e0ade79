/- Layer 14: a full ring of decisions: what is pushed. -/
import Derived.Test.YtildjnibdappnaaRingA2
namespace Go.Proofs.Ytildjnibdappnaa
open Go.ChangeShapes Go.WideShapes Go.ChangeAt Go.RowKit

set_option maxHeartbeats 2000000 in
set_option maxRecDepth 100000 in
theorem ringA_push_full {w : World} {B r : Nat} {v : Value} {room first : Nat} {xs xs' : List Value} (h : RingAt 105 5 w B r v room first room xs) (hr1 : 1 ≤ room) (hr2 : room ≤ 4096) (hf : first < room) (y a : Adv)
    (hy : ∀ j u, (advVals [y])[j]? = some u → xs[first * 5 + j]? = some u) (hl' : xs'.length = xs.length) (hx' : ∀ i, xs'[i]? = if first * 5 ≤ i ∧ i < first * 5 + 5 then (advVals [a])[i - first * 5]? else xs[i]?) :
    Calls Try.prog 50 #[.pointer (some ⟨r, 0, none⟩), .agg #[.int .i64 a.tick, .int .i64 a.load, .int .i64 a.want, .int .i64 a.repl, .int .i64 a.why]] w fun e w' => (∃ u, e = .returned u) ∧
      RingAt 105 5 w' B r v room ((first + 1) % room) room xs' ∧ Turned (fun k => k = r ∨ v.ownBlock = some k) w w' := by
  obtain ⟨f1, ef1⟩ : ∃ f1, f1 = (first + 1) % room := ⟨_, rfl⟩
  have hm1 : Hid (((first : Int) + 1) % room = f1) := by show _ = _; rw [ef1]; simp
  rw [← ef1]
  clear ef1
  obtain ⟨W, hW⟩ : ∃ W, W = (((w.alloc (.cells #[.int .i64 a.tick, .int .i64 a.load, .int .i64 a.want, .int .i64 a.repl, .int .i64 a.why] 24)).alloc (.cells #[.int .i64 0, .int .i64 0, .int .i64 0, .int .i64 0, .int .i64 0] 24)).alloc (.cells #[.int .i64 0, .int .i64 0, .int .i64 0, .int .i64 0, .int .i64 0] 24)) := ⟨_, rfl⟩
  have M1 : Hid (Mem w W [(w.heap.size, .cells #[.int .i64 a.tick, .int .i64 a.load, .int .i64 a.want, .int .i64 a.repl, .int .i64 a.why] 24), (w.heap.size + 1, .cells #[.int .i64 0, .int .i64 0, .int .i64 0, .int .i64 0, .int .i64 0] 24), (w.heap.size + 2, .cells #[.int .i64 0, .int .i64 0, .int .i64 0, .int .i64 0, .int .i64 0] 24)]) :=
    by show Mem _ _ _; rw [hW]; exact (((Mem.start w).alloc _).allocAs (w.heap.size + 1) _ (by simp)).allocAs (w.heap.size + 2) _ (by simp)
  have hR := h.below M1.out.below
  have h1 := Lib.hid (ringA_room hR)
  have d0 : ((room : Int) == 0) = false := beq_eq_false_iff_ne.2 (by omega)
  have d1 : decide ((room : Int) < room) = false := decide_eq_false (by omega)
  have c0 := hR.cell0
  have c2 := hR.cell2
  obtain ⟨g, cap, ev, hgr, hBg, hgw, hrc⟩ := h.slice (by omega)
  have H := Lib.hid hR
  have HLT := Lib.hid h.lt
  have HGW := Lib.hid hgw
  have HGR := Lib.hid hgr
  have HY := Lib.hid hy
  have HL := Lib.hid hl'
  have HX := Lib.hid hx'
  rw [ev] at c2 H ⊢
  have K0 := Lib.hid (M1.out.heap 0 rfl)
  have K1 := Lib.hid (M1.out.heap 1 rfl)
  have K2 := Lib.hid (M1.out.heap 2 rfl)
  clear h ev hR hy hl' hx' hgw hgr hBg hrc
  go_enter Try.func50, Try.ntmps50
  go_wp2_with fail
  rw [← hW]
  have MB := Lib.hid M1.out.below
  clear hW M1
  (with_reducible refine h1.out.mono ?_)
  rintro e w1 ⟨rfl, rfl⟩
  go_wp2_with fail
  go_quiet (fail)
  have HR : Hid (RingAt 105 5 (W.drewN nq) B r (.slice (some ⟨g, 0, none⟩) room cap) room first room xs) := H.out.same (Nat.le_refl _) rfl (fun _ _ => rfl)
  have ht0 : Turned (fun k => k = r ∨ (Value.slice (some ⟨g, 0, none⟩) room cap).ownBlock = some k) w (W.drewN nq) := (Turned.of_below MB.out).drewN nq
  have HT := Lib.hid ht0
  have K0' : (W.drewN nq).heap[w.heap.size]? = some (.cells #[.int .i64 a.tick, .int .i64 a.load, .int .i64 a.want, .int .i64 a.repl, .int .i64 a.why] 24 (0, 0)) := K0.out
  have K1' : (W.drewN nq).heap[w.heap.size + 1]? = some (.cells #[.int .i64 0, .int .i64 0, .int .i64 0, .int .i64 0, .int .i64 0] 24 (0, 0)) := K1.out
  have KK := Lib.hid (And.intro K0' K1')
  have hWs := MB.out.size
  obtain ⟨W2, hW2⟩ : ∃ X, X = W.drewN nq := ⟨_, rfl⟩
  rw [← hW2] at HR HT KK ⊢
  have hst := stab_and (stab_and (stab_ring (TR := 105) (sz := 5) (B := B) (r := r) (v := .slice (some ⟨g, 0, none⟩) room cap) (room := room) (first := first) (n := room) (xs := xs)) (stab_turned (S := fun k => k = r ∨ (Value.slice (some ⟨g, 0, none⟩) room cap).ownBlock = some k) (w := w))) (stab_and (stab_heap w.heap.size (.cells #[.int .i64 a.tick, .int .i64 a.load, .int .i64 a.want, .int .i64 a.repl, .int .i64 a.why] 24 (0, 0))) (stab_heap (w.heap.size + 1) (.cells #[.int .i64 0, .int .i64 0, .int .i64 0, .int .i64 0, .int .i64 0] 24 (0, 0))))
  clear K0 K1 K2 K0' K1' ht0 c0 c2 h1 H hW2
  go_wp2_with fail
  refine wp_region_E mixed [11] hst ⟨⟨HR.out.same (Nat.le_refl _) rfl (fun _ _ => rfl), HT.out.drewN 1⟩, KK.out⟩ ?_
  refine wpAnyE_take 0 rfl (by kernel_rfl) (by kernel_rfl) (by kernel_rfl) (fun _ _ _ h => h) hst (EffB.pure rfl (fun _ => rfl)) (.inr (EffB.pure rfl (fun _ => rfl))) ?_
  simp only [act_norm]
  refine wpAnyE_take 1 rfl (by kernel_rfl) (by kernel_rfl) (by kernel_rfl) (fun _ _ _ h => h) hst (EffB.pure rfl (fun _ => rfl)) (.inr (EffB.pure rfl (fun _ => rfl))) ?_
  simp only [act_norm]
  refine wpAnyE_take 2 (v := .pointer (some ⟨r, 2, none⟩)) rfl (by kernel_rfl) (by kernel_rfl) (by kernel_rfl) (fun _ _ _ h => h) hst (EffB.run rfl rfl (fun wd hS => ?_)) (.inr (EffB.run rfl rfl (fun wd hS => ?_))) ?_
  · (go_wp2; exact ⟨rfl, Below.refl _ _⟩)
  · (go_wp2; exact ⟨rfl, Below.refl _ _⟩)
  simp only [act_norm]
  refine wpAnyE_take 3 (v := .slice (some ⟨g, 0, none⟩) room cap) rfl (by kernel_rfl) (by kernel_rfl) (by kernel_rfl) (fun _ _ _ h => h) hst (EffB.run rfl rfl (fun wd hS => ?_)) (.inl (by kernel_rfl)) ?_
  · (have c2 : wd.cell? ⟨r, 2, none⟩ = some (.slice (some ⟨g, 0, none⟩) room cap) := by rw [cell_of_row _ _ _ _ _ _ (hS.1.1.row)]; rfl); go_wp2; exact ⟨rfl, Below.refl _ _⟩
  simp only [act_norm]
  refine wpAnyE_take 4 rfl (by kernel_rfl) (by kernel_rfl) (by kernel_rfl) (fun _ _ _ h => h) hst (EffB.pure rfl (fun _ => rfl)) (.inr (EffB.pure rfl (fun _ => rfl))) ?_
  simp only [act_norm]
  refine wpAnyE_take 5 rfl (by kernel_rfl) (by kernel_rfl) (by kernel_rfl) (fun _ _ _ h => h) hst (EffB.pure rfl (fun _ => rfl)) (.inr (EffB.pure rfl (fun _ => rfl))) ?_
  simp only [act_norm]
  refine wpAnyE_take 6 (v := .pointer (some ⟨r, 1, none⟩)) rfl (by kernel_rfl) (by kernel_rfl) (by kernel_rfl) (fun _ _ _ h => h) hst (EffB.run rfl rfl (fun wd hS => ?_)) (.inr (EffB.run rfl rfl (fun wd hS => ?_))) ?_
  · (go_wp2; exact ⟨rfl, Below.refl _ _⟩)
  · (go_wp2; exact ⟨rfl, Below.refl _ _⟩)
  simp only [act_norm]
  refine wpAnyE_take 7 (v := .int .i64 first) rfl (by kernel_rfl) (by kernel_rfl) (by kernel_rfl) (fun _ _ _ h => h) hst (EffB.run rfl rfl (fun wd hS => ?_)) (.inl (by kernel_rfl)) ?_
  · (have c2 : wd.cell? ⟨r, 1, none⟩ = some (.int .i64 first) := by rw [cell_of_row _ _ _ _ _ _ (hS.1.1.row)]; rfl); go_wp2; exact ⟨rfl, Below.refl _ _⟩
  simp only [act_norm]
  refine wpAnyE_take 8 (v := .pointer (some ⟨g, first * 5, none⟩)) rfl (by kernel_rfl) (by kernel_rfl) (by kernel_rfl) (fun _ _ _ h => h) hst (EffB.run rfl rfl (fun wd hS => ?_)) (.inr (EffB.run rfl rfl (fun wd hS => ?_))) ?_
  · (go_wp2; exact ⟨rfl, Below.refl _ _⟩)
  · (go_wp2; exact ⟨rfl, Below.refl _ _⟩)
  simp only [act_norm]
  refine wpAnyE_take 9 (v := .agg #[.int .i64 y.tick, .int .i64 y.load, .int .i64 y.want, .int .i64 y.repl, .int .i64 y.why]) rfl (by kernel_rfl) (by kernel_rfl) (by kernel_rfl) (fun _ _ _ h => h) hst (EffB.run rfl rfl (fun wd hS => ?_)) (.inl (by kernel_rfl)) ?_
  · exact wp_load_mid 24 _ rfl g (first * 5) rfl (advVals [y]) _ (ring_mid (hS.1.1.owns) hf HY.out) Try.underlying24 rfl advSize5 ⟨rfl, Below.refl _ _⟩
  simp only [act_norm]
  refine wpAnyE_one 10 rfl (by kernel_rfl) rfl (fun wd hS => ?_)
  have hst2 := stab_and hst (stab_heap wd.heap.size (.cells #[.int .i64 0, .int .i64 0, .int .i64 0, .int .i64 0, .int .i64 0] 24 (0, 0)))
  have hXge : w.heap.size + 1 < wd.heap.size := lt_of_heap hS.2.2
  have X1 := Lib.hid (And.intro (hst _ _ hS (below1 wd (.cells #[.int .i64 0, .int .i64 0, .int .i64 0, .int .i64 0, .int .i64 0] 24))) (heap_alloc_at wd (.cells #[.int .i64 0, .int .i64 0, .int .i64 0, .int .i64 0, .int .i64 0] 24) wd.heap.size rfl))
  clear hS
  go_wp2
  refine ⟨_, X1.out, hst2, (by first | exact fun _ h => h.1 | exact .inr fun _ h => h.1), ?_⟩
  obtain ⟨X, hX⟩ : ∃ X, wd.heap.size = X := ⟨_, rfl⟩
  rw [hX] at hst2 hXge ⊢
  clear X1 hX
  try simp only [act_norm]
  refine wpAnyE_one 11 rfl (by kernel_rfl) rfl (fun wd hS => ?_)
  have hst3 := stab_and hst (stab_heap X (.cells #[.int .i64 y.tick, .int .i64 y.load, .int .i64 y.want, .int .i64 y.repl, .int .i64 y.why] 24 (0, 0)))
  clear hst hst2
  have hst := hst3
  have hXg : X ≠ g := by have := HGW.out; omega
  have hXr : X ≠ r := by have := HLT.out; omega
  have hown : (Value.slice (some ⟨g, 0, none⟩) room cap).ownBlock = some g := rfl
  refine wp_store_row 24 _ _ rfl X #[.int .i64 y.tick, .int .i64 y.load, .int .i64 y.want, .int .i64 y.repl, .int .i64 y.why] rfl rfl 24 #[.int .i64 0, .int .i64 0, .int .i64 0, .int .i64 0, .int .i64 0] hS.2 advSize5 rfl (by simp [Value.oneCell']) ?_
  refine ⟨_, (⟨⟨⟨hS.1.1.1.turned (turned_setRow wd X _) (Ne.symm hXr) (fun k hk e => by rw [hown] at hk; injection hk with hk; omega), hS.1.1.2.trans (turned_setRow wd X _) (fun k hk e => by omega)⟩, (setRow_other wd X w.heap.size _ (by omega)).trans hS.1.2.1, (setRow_other wd X (w.heap.size + 1) _ (by omega)).trans hS.1.2.2⟩, setRow_heap _ _ _ _ _ _ hS.2⟩), hst3, .inl (by decide), ?_⟩
  clear hS hst3
  try simp only [act_norm]
  refine wpAnyE_done (by kernel_rfl) (fun wd hS => ?_) _
  have HS := Lib.hid hS
  clear hS KK HR HT MB
  go_wp2_with fail
  refine wp_region_E mixed [10] hst ⟨⟨⟨HS.out.1.1.1.same (Nat.le_refl _) rfl (fun _ _ => rfl), HS.out.1.1.2.drewN 1⟩, HS.out.1.2⟩, HS.out.2⟩ ?_
  refine wpAnyE_take 0 rfl (by kernel_rfl) (by kernel_rfl) (by kernel_rfl) (fun _ _ _ h => h) hst (EffB.pure rfl (fun _ => rfl)) (.inr (EffB.pure rfl (fun _ => rfl))) ?_
  simp only [act_norm]
  refine wpAnyE_take 1 rfl (by kernel_rfl) (by kernel_rfl) (by kernel_rfl) (fun _ _ _ h => h) hst (EffB.pure rfl (fun _ => rfl)) (.inr (EffB.pure rfl (fun _ => rfl))) ?_
  simp only [act_norm]
  refine wpAnyE_take 2 (v := .pointer (some ⟨r, 2, none⟩)) rfl (by kernel_rfl) (by kernel_rfl) (by kernel_rfl) (fun _ _ _ h => h) hst (EffB.run rfl rfl (fun wd hS => ?_)) (.inr (EffB.run rfl rfl (fun wd hS => ?_))) ?_
  · (go_wp2; exact ⟨rfl, Below.refl _ _⟩)
  · (go_wp2; exact ⟨rfl, Below.refl _ _⟩)
  simp only [act_norm]
  refine wpAnyE_take 3 (v := .slice (some ⟨g, 0, none⟩) room cap) rfl (by kernel_rfl) (by kernel_rfl) (by kernel_rfl) (fun _ _ _ h => h) hst (EffB.run rfl rfl (fun wd hS => ?_)) (.inl (by kernel_rfl)) ?_
  · (have c2 : wd.cell? ⟨r, 2, none⟩ = some (.slice (some ⟨g, 0, none⟩) room cap) := by rw [cell_of_row _ _ _ _ _ _ (hS.1.1.1.row)]; rfl); go_wp2; exact ⟨rfl, Below.refl _ _⟩
  simp only [act_norm]
  refine wpAnyE_take 4 rfl (by kernel_rfl) (by kernel_rfl) (by kernel_rfl) (fun _ _ _ h => h) hst (EffB.pure rfl (fun _ => rfl)) (.inr (EffB.pure rfl (fun _ => rfl))) ?_
  simp only [act_norm]
  refine wpAnyE_take 5 rfl (by kernel_rfl) (by kernel_rfl) (by kernel_rfl) (fun _ _ _ h => h) hst (EffB.pure rfl (fun _ => rfl)) (.inr (EffB.pure rfl (fun _ => rfl))) ?_
  simp only [act_norm]
  refine wpAnyE_take 6 (v := .pointer (some ⟨r, 1, none⟩)) rfl (by kernel_rfl) (by kernel_rfl) (by kernel_rfl) (fun _ _ _ h => h) hst (EffB.run rfl rfl (fun wd hS => ?_)) (.inr (EffB.run rfl rfl (fun wd hS => ?_))) ?_
  · (go_wp2; exact ⟨rfl, Below.refl _ _⟩)
  · (go_wp2; exact ⟨rfl, Below.refl _ _⟩)
  simp only [act_norm]
  refine wpAnyE_take 7 (v := .int .i64 first) rfl (by kernel_rfl) (by kernel_rfl) (by kernel_rfl) (fun _ _ _ h => h) hst (EffB.run rfl rfl (fun wd hS => ?_)) (.inl (by kernel_rfl)) ?_
  · (have c2 : wd.cell? ⟨r, 1, none⟩ = some (.int .i64 first) := by rw [cell_of_row _ _ _ _ _ _ (hS.1.1.1.row)]; rfl); go_wp2; exact ⟨rfl, Below.refl _ _⟩
  simp only [act_norm]
  refine wpAnyE_take 8 (v := .agg #[.int .i64 a.tick, .int .i64 a.load, .int .i64 a.want, .int .i64 a.repl, .int .i64 a.why]) rfl (by kernel_rfl) (by kernel_rfl) (by kernel_rfl) (fun _ _ _ h => h) hst (EffB.run rfl rfl (fun wd hS => ?_)) (.inl (by kernel_rfl)) ?_
  · exact wp_load_row 24 _ rfl (w.heap.size) rfl 24 #[.int .i64 a.tick, .int .i64 a.load, .int .i64 a.want, .int .i64 a.repl, .int .i64 a.why] (0, 0) _ (hS.1.2.1) Try.underlying24 rfl (by kernel_rfl) ⟨rfl, Below.refl _ _⟩
  simp only [act_norm]
  refine wpAnyE_take 9 (v := .pointer (some ⟨g, first * 5, none⟩)) rfl (by kernel_rfl) (by kernel_rfl) (by kernel_rfl) (fun _ _ _ h => h) hst (EffB.run rfl rfl (fun wd hS => ?_)) (.inr (EffB.run rfl rfl (fun wd hS => ?_))) ?_
  · (go_wp2; exact ⟨rfl, Below.refl _ _⟩)
  · (go_wp2; exact ⟨rfl, Below.refl _ _⟩)
  simp only [act_norm]
  refine wpAnyE_one 10 rfl (by kernel_rfl) rfl (fun wd hS => ?_)
  have hst4 := stab_and (stab_and (stab_ring (TR := 105) (sz := 5) (B := B) (r := r) (v := .slice (some ⟨g, 0, none⟩) room cap) (room := room) (first := first) (n := room) (xs := xs')) (stab_turned (S := fun k => k = r ∨ (Value.slice (some ⟨g, 0, none⟩) room cap).ownBlock = some k) (w := w))) (stab_and (stab_heap (w.heap.size + 1) (.cells #[.int .i64 0, .int .i64 0, .int .i64 0, .int .i64 0, .int .i64 0] 24 (0, 0))) (stab_heap X (.cells #[.int .i64 y.tick, .int .i64 y.load, .int .i64 y.want, .int .i64 y.repl, .int .i64 y.why] 24 (0, 0))))
  clear hst
  have hst := hst4
  have hr3 : RingAt 105 5 (wd.setCells g (first * 5) (advVals [a])) B r (.slice (some ⟨g, 0, none⟩) room cap) room first room xs' :=
    ⟨hS.1.1.1.low, (heap_setCells_other _ _ _ _ _ (Ne.symm HGR.out)).trans hS.1.1.1.row, hS.1.1.1.owns.putMid rfl first (advVals [a]) rfl hf xs' HL.out HX.out, hS.1.1.1.apart, fun h => by omega⟩
  have ht3 := hS.1.1.2.setCells (b := g) (fun _ => .inr rfl) (advVals [a]) (first * 5)
  have hgw := HGW.out
  refine wp_store_mid 24 _ _ rfl g (first * 5) #[.int .i64 a.tick, .int .i64 a.load, .int .i64 a.want, .int .i64 a.repl, .int .i64 a.why] rfl rfl (ring_there hS.1.1.1.owns hf) advSize5 (by simp [Value.oneCell']) ?_
  refine ⟨_, (⟨⟨hr3, ht3⟩, (heap_setCells_other _ _ _ _ _ (by omega)).trans hS.1.2.2, (heap_setCells_other _ _ _ _ _ hXg).trans hS.2⟩), hst4, .inl (by decide), ?_⟩
  clear hS hst4 hr3 ht3
  try simp only [act_norm]
  refine wpAnyE_done (by kernel_rfl) (fun wd hS => ?_) _
  have HS2 := Lib.hid hS
  clear hS HS
  go_wp2_with fail
  refine wp_region_E mixed [13] hst ⟨⟨HS2.out.1.1.same (Nat.le_refl _) rfl (fun _ _ => rfl), HS2.out.1.2.drewN 1⟩, HS2.out.2⟩ ?_
  refine wpAnyE_take 0 rfl (by kernel_rfl) (by kernel_rfl) (by kernel_rfl) (fun _ _ _ h => h) hst (EffB.pure rfl (fun _ => rfl)) (.inr (EffB.pure rfl (fun _ => rfl))) ?_
  simp only [act_norm]
  refine wpAnyE_take 1 rfl (by kernel_rfl) (by kernel_rfl) (by kernel_rfl) (fun _ _ _ h => h) hst (EffB.pure rfl (fun _ => rfl)) (.inr (EffB.pure rfl (fun _ => rfl))) ?_
  simp only [act_norm]
  refine wpAnyE_take 2 (v := .pointer (some ⟨r, 0, none⟩)) rfl (by kernel_rfl) (by kernel_rfl) (by kernel_rfl) (fun _ _ _ h => h) hst (EffB.run rfl rfl (fun wd hS => ?_)) (.inr (EffB.run rfl rfl (fun wd hS => ?_))) ?_
  · (go_wp2; exact ⟨rfl, Below.refl _ _⟩)
  · (go_wp2; exact ⟨rfl, Below.refl _ _⟩)
  simp only [act_norm]
  refine wpAnyE_take 3 (v := .pointer (some ⟨r, 1, none⟩)) rfl (by kernel_rfl) (by kernel_rfl) (by kernel_rfl) (fun _ _ _ h => h) hst (EffB.run rfl rfl (fun wd hS => ?_)) (.inr (EffB.run rfl rfl (fun wd hS => ?_))) ?_
  · (go_wp2; exact ⟨rfl, Below.refl _ _⟩)
  · (go_wp2; exact ⟨rfl, Below.refl _ _⟩)
  simp only [act_norm]
  refine wpAnyE_take 4 (v := .int .i64 first) rfl (by kernel_rfl) (by kernel_rfl) (by kernel_rfl) (fun _ _ _ h => h) hst (EffB.run rfl rfl (fun wd hS => ?_)) (.inl (by kernel_rfl)) ?_
  · (have c2 : wd.cell? ⟨r, 1, none⟩ = some (.int .i64 first) := by rw [cell_of_row _ _ _ _ _ _ (hS.1.1.row)]; rfl); go_wp2; exact ⟨rfl, Below.refl _ _⟩
  simp only [act_norm]
  refine wpAnyE_take 5 (v := .int .i64 ((first : Int) + 1)) rfl (by kernel_rfl) (by kernel_rfl) (by kernel_rfl) (fun _ _ _ h => h) hst (EffB.run rfl rfl (fun wd hS => ?_)) (.inr (EffB.run rfl rfl (fun wd hS => ?_))) ?_
  · (go_wp2; exact ⟨rfl, Below.refl _ _⟩)
  · (go_wp2; exact ⟨rfl, Below.refl _ _⟩)
  simp only [act_norm]
  refine wpAnyE_take 6 rfl (by kernel_rfl) (by kernel_rfl) (by kernel_rfl) (fun _ _ _ h => h) hst (EffB.pure rfl (fun _ => rfl)) (.inr (EffB.pure rfl (fun _ => rfl))) ?_
  simp only [act_norm]
  refine wpAnyE_take 7 (v := .pointer (some ⟨r, 0, none⟩)) rfl (by kernel_rfl) (by kernel_rfl) (by kernel_rfl) (fun _ _ _ h => h) hst (EffB.run rfl rfl (fun wd hS => ?_)) (.inr (EffB.run rfl rfl (fun wd hS => ?_))) ?_
  · (go_wp2; exact ⟨rfl, Below.refl _ _⟩)
  · (go_wp2; exact ⟨rfl, Below.refl _ _⟩)
  simp only [act_norm]
  refine wpAnyE_take 8 (v := .pointer (some ⟨r, 0, none⟩)) rfl (by kernel_rfl) (by kernel_rfl) (by kernel_rfl) (fun _ _ _ h => h) hst (EffB.run rfl rfl (fun wd hS => ?_)) (.inr (EffB.run rfl rfl (fun wd hS => ?_))) ?_
  · (go_wp2; exact ⟨rfl, Below.refl _ _⟩)
  · (go_wp2; exact ⟨rfl, Below.refl _ _⟩)
  simp only [act_norm]
  refine wpAnyE_take 9 (v := .int .i64 room) rfl (by kernel_rfl) (by kernel_rfl) (by kernel_rfl) (fun _ _ _ h => h) hst (EffB.run rfl rfl (fun wd hS => ?_)) (.inl (by kernel_rfl)) ?_
  · (have c2 : wd.cell? ⟨r, 0, none⟩ = some (.int .i64 room) := by rw [cell_of_row _ _ _ _ _ _ (hS.1.1.row)]; rfl); go_wp2; exact ⟨rfl, Below.refl _ _⟩
  simp only [act_norm]
  refine wpAnyE_take 10 (v := .int .i64 (((first : Int) + 1) % room)) rfl (by kernel_rfl) (by kernel_rfl) (by kernel_rfl) (fun _ _ _ h => h) hst (EffB.run rfl rfl (fun wd hS => ?_)) (.inr (EffB.run rfl rfl (fun wd hS => ?_))) ?_
  · (go_wp2; exact ⟨rfl, Below.refl _ _⟩)
  · (go_wp2; exact ⟨rfl, Below.refl _ _⟩)
  simp only [act_norm]
  rw [hm1.out]
  refine wpAnyE_take 11 (v := .pointer (some ⟨r, 0, none⟩)) rfl (by kernel_rfl) (by kernel_rfl) (by kernel_rfl) (fun _ _ _ h => h) hst (EffB.run rfl rfl (fun wd hS => ?_)) (.inr (EffB.run rfl rfl (fun wd hS => ?_))) ?_
  · (go_wp2; exact ⟨rfl, Below.refl _ _⟩)
  · (go_wp2; exact ⟨rfl, Below.refl _ _⟩)
  simp only [act_norm]
  refine wpAnyE_take 12 (v := .pointer (some ⟨r, 1, none⟩)) rfl (by kernel_rfl) (by kernel_rfl) (by kernel_rfl) (fun _ _ _ h => h) hst (EffB.run rfl rfl (fun wd hS => ?_)) (.inr (EffB.run rfl rfl (fun wd hS => ?_))) ?_
  · (go_wp2; exact ⟨rfl, Below.refl _ _⟩)
  · (go_wp2; exact ⟨rfl, Below.refl _ _⟩)
  simp only [act_norm]
  refine wpAnyE_one 13 rfl (by kernel_rfl) rfl (fun wd3 hS => ?_)
  have c3 := hS.1.1.cell1
  have g3 := hS.1.1.free 1
  have hrw := HLT.out
  have hr3 : RingAt 105 5 (wd3.setCell ⟨r, 1, none⟩ (.int .i64 f1)) B r (.slice (some ⟨g, 0, none⟩) room cap) room f1 room xs' :=
    ⟨hS.1.1.low, by rw [heap_setCell_same _ _ _ _ _ _ hS.1.1.row]; rfl, hS.1.1.owns.setOther _ hS.1.1.apart, hS.1.1.apart, fun h => by omega⟩
  have ht3 := hS.1.2.setCell (b := r) (j := 1) (.int .i64 f1) (fun _ => .inl rfl)
  have k1 : (wd3.setCell ⟨r, 1, none⟩ (.int .i64 f1)).heap[w.heap.size + 1]? = some (.cells #[.int .i64 0, .int .i64 0, .int .i64 0, .int .i64 0, .int .i64 0] 24 (0, 0)) := (Below.heap_setCell _ _ _ _ (by show w.heap.size + 1 ≠ r; omega)).trans hS.2.1
  have k2 : (wd3.setCell ⟨r, 1, none⟩ (.int .i64 f1)).heap[X]? = some (.cells #[.int .i64 y.tick, .int .i64 y.load, .int .i64 y.want, .int .i64 y.repl, .int .i64 y.why] 24 (0, 0)) := (Below.heap_setCell _ _ _ _ (by show X ≠ r; omega)).trans hS.2.2
  have X3 := Lib.hid (And.intro (And.intro hr3 ht3) (And.intro k1 k2))
  have hst5 := stab_and (stab_and (stab_ring (TR := 105) (sz := 5) (B := B) (r := r) (v := .slice (some ⟨g, 0, none⟩) room cap) (room := room) (first := f1) (n := room) (xs := xs')) (stab_turned (S := fun k => k = r ∨ (Value.slice (some ⟨g, 0, none⟩) room cap).ownBlock = some k) (w := w))) (stab_and (stab_heap (w.heap.size + 1) (.cells #[.int .i64 0, .int .i64 0, .int .i64 0, .int .i64 0, .int .i64 0] 24 (0, 0))) (stab_heap X (.cells #[.int .i64 y.tick, .int .i64 y.load, .int .i64 y.want, .int .i64 y.repl, .int .i64 y.why] 24 (0, 0))))
  clear hS hst hr3 ht3 k1 k2
  go_wp2
  refine ⟨_, X3.out, hst5, ?_⟩
  clear X3 c3 g3
  try simp only [act_norm]
  refine wpAnyE_done (by kernel_rfl) (fun wd4 hS => ?_) _
  have HS := Lib.hid hS
  have K1 := Lib.hid hS.2.1
  have K2 := Lib.hid hS.2.2
  clear hS HS2
  go_wp2_with (first | ((with_reducible refine wpList_load_rowAs rfl 24 _ rfl (X) ?_ 24 #[.int .i64 y.tick, .int .i64 y.load, .int .i64 y.want, .int .i64 y.repl, .int .i64 y.why] (0, 0) _ 5 ?_ Try.underlying24 rfl (by kernel_rfl) ?_ ?_); exact rfl; exact K2.out; exact rfl) | ((with_reducible refine wpList_store_rowAs rfl 24 _ _ rfl ((w.heap.size + 1)) #[.int .i64 y.tick, .int .i64 y.load, .int .i64 y.want, .int .i64 y.repl, .int .i64 y.why] ?_ ?_ 24 #[.int .i64 0, .int .i64 0, .int .i64 0, .int .i64 0, .int .i64 0] 5 ?_ (by kernel_rfl) rfl rfl (by simp [Value.oneCell']) ?_); exact rfl; exact rfl; exact K1.out))
  have hT := turned_setRow wd4 (w.heap.size + 1) #[.int .i64 y.tick, .int .i64 y.load, .int .i64 y.want, .int .i64 y.repl, .int .i64 y.why]
  have hgw := HGW.out
  exact bodyPost_ret (results_row_tmp rfl _ _ (w.heap.size + 1) 24 #[.int .i64 y.tick, .int .i64 y.load, .int .i64 y.want, .int .i64 y.repl, .int .i64 y.why] (0, 0) _ 5 _ rfl rfl (setRow_heap _ _ _ _ _ _ K1.out) Try.underlying24 rfl advSize5 rfl) rfl ⟨⟨_, rfl⟩, HS.out.1.1.turned hT (by omega) (fun k hk e => by rw [hown] at hk; injection hk with hk; omega), HS.out.1.2.trans hT (fun k hk e => by omega)⟩
end Go.Proofs.Ytildjnibdappnaa
