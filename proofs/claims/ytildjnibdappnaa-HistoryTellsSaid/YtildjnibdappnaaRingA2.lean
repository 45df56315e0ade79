/- Layer 14: a ring of decisions: what is pushed. -/
import Derived.Test.YtildjnibdappnaaRingA
namespace Go.Proofs.Ytildjnibdappnaa
open Go.ChangeShapes Go.WideShapes Go.ChangeAt Go.RowKit

theorem ringA_push_nil (a : Adv) (w : World) : Calls Try.prog 50 #[.pointer none, .agg #[.int .i64 a.tick, .int .i64 a.load, .int .i64 a.want, .int .i64 a.repl, .int .i64 a.why]] w fun e w' => (∃ u, e = .returned u) ∧ Below w.heap.size w w' := by
  have h1 := Lib.hid (ringA_room_nil)
  have M1 : Hid (Mem w (((w.alloc (.cells #[.int .i64 a.tick, .int .i64 a.load, .int .i64 a.want, .int .i64 a.repl, .int .i64 a.why] 24)).alloc (.cells #[.int .i64 0, .int .i64 0, .int .i64 0, .int .i64 0, .int .i64 0] 24)).alloc (.cells #[.int .i64 0, .int .i64 0, .int .i64 0, .int .i64 0, .int .i64 0] 24)) [(w.heap.size, .cells #[.int .i64 a.tick, .int .i64 a.load, .int .i64 a.want, .int .i64 a.repl, .int .i64 a.why] 24), (w.heap.size + 1, .cells #[.int .i64 0, .int .i64 0, .int .i64 0, .int .i64 0, .int .i64 0] 24), (w.heap.size + 2, .cells #[.int .i64 0, .int .i64 0, .int .i64 0, .int .i64 0, .int .i64 0] 24)]) :=
    (((Mem.start w).alloc _).allocAs (w.heap.size + 1) _ (by simp)).allocAs (w.heap.size + 2) _ (by simp)
  have K1 := Lib.hid (M1.out.heap 1 rfl)
  have K2 := Lib.hid (M1.out.heap 2 rfl)
  go_enter Try.func50, Try.ntmps50
  go_wp2_with (first | ((with_reducible refine (h1.out _).mono ?_); rintro e w1 ⟨rfl, rfl⟩) | ((with_reducible refine wpList_load_rowAs rfl 24 _ rfl ((w.heap.size + 2)) ?_ 24 #[.int .i64 0, .int .i64 0, .int .i64 0, .int .i64 0, .int .i64 0] (0, 0) _ 5 ?_ Try.underlying24 rfl (by kernel_rfl) ?_ ?_); exact rfl; exact K2.out; exact rfl) | ((with_reducible refine wpList_store_rowAs rfl 24 _ _ rfl ((w.heap.size + 1)) #[.int .i64 0, .int .i64 0, .int .i64 0, .int .i64 0, .int .i64 0] ?_ ?_ 24 #[.int .i64 0, .int .i64 0, .int .i64 0, .int .i64 0, .int .i64 0] 5 ?_ (by kernel_rfl) rfl rfl (by simp [Value.oneCell']) ?_); exact rfl; exact rfl; exact K1.out))
  exact bodyPost_ret (results_row_tmp rfl _ _ (w.heap.size + 1) 24 #[.int .i64 0, .int .i64 0, .int .i64 0, .int .i64 0, .int .i64 0] (0, 0) _ 5 _ rfl rfl ((M1.out.setRow 1 rfl).heap 1 rfl) Try.underlying24 rfl advSize5 rfl) rfl ⟨⟨_, rfl⟩, (M1.out.setRow 1 rfl).below⟩

set_option maxHeartbeats 2000000 in
set_option maxRecDepth 100000 in
theorem ringA_push_grows {w : World} {B r : Nat} {v : Value} {room n : Nat} {xs : List Value} (h : RingAt 105 5 w B r v room 0 n xs) (hr : n < room) (hr2 : room ≤ 4096) (hB : B ≤ w.heap.size) (a : Adv) :
    Calls Try.prog 50 #[.pointer (some ⟨r, 0, none⟩), .agg #[.int .i64 a.tick, .int .i64 a.load, .int .i64 a.want, .int .i64 a.repl, .int .i64 a.why]] w fun e w' => (∃ u, e = .returned u) ∧
      ∃ v', RingAt 105 5 w' B r v' room 0 (n + 1) (xs ++ advVals [a]) ∧ Turned (fun k => k = r ∨ v.ownBlock = some k) w w' ∧ (∀ k, v'.ownBlock = some k → v.ownBlock = some k ∨ w.heap.size ≤ k) := by
  obtain ⟨W, hW⟩ : ∃ W, W = (((w.alloc (.cells #[.int .i64 a.tick, .int .i64 a.load, .int .i64 a.want, .int .i64 a.repl, .int .i64 a.why] 24)).alloc (.cells #[.int .i64 0, .int .i64 0, .int .i64 0, .int .i64 0, .int .i64 0] 24)).alloc (.cells #[.int .i64 0, .int .i64 0, .int .i64 0, .int .i64 0, .int .i64 0] 24)) := ⟨_, rfl⟩
  have M1 : Hid (Mem w W [(w.heap.size, .cells #[.int .i64 a.tick, .int .i64 a.load, .int .i64 a.want, .int .i64 a.repl, .int .i64 a.why] 24), (w.heap.size + 1, .cells #[.int .i64 0, .int .i64 0, .int .i64 0, .int .i64 0, .int .i64 0] 24), (w.heap.size + 2, .cells #[.int .i64 0, .int .i64 0, .int .i64 0, .int .i64 0, .int .i64 0] 24)]) :=
    by show Mem _ _ _; rw [hW]; exact (((Mem.start w).alloc _).allocAs (w.heap.size + 1) _ (by simp)).allocAs (w.heap.size + 2) _ (by simp)
  have hR := h.below M1.out.below
  have h1 := Lib.hid (ringA_room hR)
  have d0 : ((room : Int) == 0) = false := beq_eq_false_iff_ne.2 (by omega)
  have c0 := hR.cell0
  have c2 := hR.cell2
  obtain ⟨p, cap, ev, _⟩ := h.owns.sl
  have H := Lib.hid hR
  have HLT := Lib.hid h.lt
  have HOL := Lib.hid h.owns.lt
  rw [ev] at c2 H HOL ⊢
  have K0 := Lib.hid (M1.out.heap 0 rfl)
  have K1 := Lib.hid (M1.out.heap 1 rfl)
  have K2 := Lib.hid (M1.out.heap 2 rfl)
  clear h ev hR
  go_enter Try.func50, Try.ntmps50
  go_wp2_with fail
  rw [← hW]
  have MB := Lib.hid M1.out.below
  clear hW M1
  (with_reducible refine h1.out.mono ?_)
  rintro e w1 ⟨rfl, rfl⟩
  go_wp2_with (first | ((with_reducible refine wpList_load_rowAs rfl 24 _ rfl ((w.heap.size + 2)) ?_ 24 #[.int .i64 0, .int .i64 0, .int .i64 0, .int .i64 0, .int .i64 0] (0, 0) _ 5 ?_ Try.underlying24 rfl (by kernel_rfl) ?_ ?_); exact rfl; exact K2.out; exact rfl) | ((with_reducible refine wpList_store_rowAs rfl 24 _ _ rfl ((w.heap.size + 1)) #[.int .i64 0, .int .i64 0, .int .i64 0, .int .i64 0, .int .i64 0] ?_ ?_ 24 #[.int .i64 0, .int .i64 0, .int .i64 0, .int .i64 0, .int .i64 0] 5 ?_ (by kernel_rfl) rfl rfl (by simp [Value.oneCell']) ?_); exact rfl; exact rfl; exact K1.out))
  go_quiet (fail)
  have HR : Hid (RingAt 105 5 (W.drewN nq) B r (.slice p n cap) room 0 n xs) := H.out.same (Nat.le_refl _) rfl (fun _ _ => rfl)
  have ht0 : Turned (fun k => k = r ∨ (Value.slice p n cap).ownBlock = some k) w (W.drewN nq) := (Turned.of_below MB.out).drewN nq
  have HT := Lib.hid ht0
  have K0' : (W.drewN nq).heap[w.heap.size]? = some (.cells #[.int .i64 a.tick, .int .i64 a.load, .int .i64 a.want, .int .i64 a.repl, .int .i64 a.why] 24 (0, 0)) := K0.out
  have K1' : (W.drewN nq).heap[w.heap.size + 1]? = some (.cells #[.int .i64 0, .int .i64 0, .int .i64 0, .int .i64 0, .int .i64 0] 24 (0, 0)) := K1.out
  have K2' : (W.drewN nq).heap[w.heap.size + 2]? = some (.cells #[.int .i64 0, .int .i64 0, .int .i64 0, .int .i64 0, .int .i64 0] 24 (0, 0)) := K2.out
  have KK := Lib.hid (And.intro K0' (And.intro K1' K2'))
  have hWs := MB.out.size
  obtain ⟨W2, hW2⟩ : ∃ X, X = W.drewN nq := ⟨_, rfl⟩
  rw [← hW2] at HR HT KK ⊢
  have hst := stab_and (stab_and (stab_ring (TR := 105) (sz := 5) (B := B) (r := r) (v := .slice p n cap) (room := room) (first := 0) (n := n) (xs := xs)) (stab_turned (S := fun k => k = r ∨ (Value.slice p n cap).ownBlock = some k) (w := w))) (stab_and (stab_heap w.heap.size (.cells #[.int .i64 a.tick, .int .i64 a.load, .int .i64 a.want, .int .i64 a.repl, .int .i64 a.why] 24 (0, 0))) (stab_and (stab_heap (w.heap.size + 1) (.cells #[.int .i64 0, .int .i64 0, .int .i64 0, .int .i64 0, .int .i64 0] 24 (0, 0))) (stab_heap (w.heap.size + 2) (.cells #[.int .i64 0, .int .i64 0, .int .i64 0, .int .i64 0, .int .i64 0] 24 (0, 0)))))
  clear K0 K1 K2 K0' K1' K2' ht0 c0 c2 h1 H hW2
  go_wp2_with fail
  refine wp_region_E mixed [7, 10] hst ⟨⟨HR.out.same (Nat.le_refl _) rfl (fun _ _ => rfl), HT.out.drewN 1⟩, KK.out⟩ ?_
  refine wpAnyE_take 0 rfl (by kernel_rfl) (by kernel_rfl) (by kernel_rfl) (fun _ _ _ h => h) hst (EffB.pure rfl (fun _ => rfl)) (.inr (EffB.pure rfl (fun _ => rfl))) ?_
  simp only [act_norm]
  refine wpAnyE_take 1 rfl (by kernel_rfl) (by kernel_rfl) (by kernel_rfl) (fun _ _ _ h => h) hst (EffB.pure rfl (fun _ => rfl)) (.inr (EffB.pure rfl (fun _ => rfl))) ?_
  simp only [act_norm]
  refine wpAnyE_take 2 (v := .pointer (some ⟨r, 0, none⟩)) rfl (by kernel_rfl) (by kernel_rfl) (by kernel_rfl) (fun _ _ _ h => h) hst (EffB.run rfl rfl (fun wd hS => ?_)) (.inr (EffB.run rfl rfl (fun wd hS => ?_))) ?_
  · (go_wp2; exact ⟨rfl, Below.refl _ _⟩)
  · (go_wp2; exact ⟨rfl, Below.refl _ _⟩)
  simp only [act_norm]
  refine wpAnyE_take 3 (v := .pointer (some ⟨r, 2, none⟩)) rfl (by kernel_rfl) (by kernel_rfl) (by kernel_rfl) (fun _ _ _ h => h) hst (EffB.run rfl rfl (fun wd hS => ?_)) (.inr (EffB.run rfl rfl (fun wd hS => ?_))) ?_
  · (go_wp2; exact ⟨rfl, Below.refl _ _⟩)
  · (go_wp2; exact ⟨rfl, Below.refl _ _⟩)
  simp only [act_norm]
  refine wpAnyE_take 4 (v := .slice p n cap) rfl (by kernel_rfl) (by kernel_rfl) (by kernel_rfl) (fun _ _ _ h => h) hst (EffB.run rfl rfl (fun wd hS => ?_)) (.inl (by kernel_rfl)) ?_
  · (have c2 : wd.cell? ⟨r, 2, none⟩ = some (.slice p n cap) := by rw [cell_of_row _ _ _ _ _ _ (hS.1.1.row)]; rfl); go_wp2; exact ⟨rfl, Below.refl _ _⟩
  simp only [act_norm]
  refine wpAnyE_take 5 (v := .agg #[.int .i64 a.tick, .int .i64 a.load, .int .i64 a.want, .int .i64 a.repl, .int .i64 a.why]) rfl (by kernel_rfl) (by kernel_rfl) (by kernel_rfl) (fun _ _ _ h => h) hst (EffB.run rfl rfl (fun wd hS => ?_)) (.inl (by kernel_rfl)) ?_
  · exact wp_load_row 24 _ rfl (w.heap.size) rfl 24 #[.int .i64 a.tick, .int .i64 a.load, .int .i64 a.want, .int .i64 a.repl, .int .i64 a.why] (0, 0) _ (hS.2.1) Try.underlying24 rfl (by kernel_rfl) ⟨rfl, Below.refl _ _⟩
  simp only [act_norm]
  refine wpAnyE_one 6 rfl (by kernel_rfl) rfl (fun wd hS => ?_)
  have hst2 := stab_and hst (stab_heap wd.heap.size (.cells #[.int .i64 a.tick, .int .i64 a.load, .int .i64 a.want, .int .i64 a.repl, .int .i64 a.why] 24 (0, 0)))
  have X1 := Lib.hid (And.intro (hst _ _ hS (below1 wd (.cells #[.int .i64 a.tick, .int .i64 a.load, .int .i64 a.want, .int .i64 a.repl, .int .i64 a.why] 24))) (heap_alloc_at wd (.cells #[.int .i64 a.tick, .int .i64 a.load, .int .i64 a.want, .int .i64 a.repl, .int .i64 a.why] 24) wd.heap.size rfl))
  clear hS
  go_wp2
  refine ⟨_, X1.out, hst2, (by first | exact fun _ h => h.1 | exact .inr fun _ h => h.1), ?_⟩
  obtain ⟨X, hX⟩ : ∃ X, wd.heap.size = X := ⟨_, rfl⟩
  rw [hX] at hst2 ⊢
  clear X1 hst hX
  try simp only [act_norm]
  refine wpAnyE_one 7 rfl (by kernel_rfl) rfl (fun wd hS => ?_)
  have c28 : ∀ (j : Nat) (u : Value), (advVals [a])[j]? = some u → wd.cell? ⟨X, j, none⟩ = some u := fun j u hu => by
    rw [cell_of_row _ _ _ _ _ _ hS.2]
    simpa [advVals] using hu
  refine wp_append_any2 _ _ 22 rfl B 24 (.agg #[.int .i64 0, .int .i64 0, .int .i64 0, .int .i64 0, .int .i64 0]) 5 40 Try.underlying22 advInfo rfl (by decide) (.slice p n cap) n xs rfl hS.1.1.1.owns (some ⟨X, 0, none⟩) 1 1 (advVals [a]) rfl rfl (by simp) (fun ad had j u hu => by cases had; rw [Addr.add_mid, Nat.zero_add]; exact c28 j u hu) (advVals_one1 a) (by unfold maxLen; omega) (by omega) (by have := hS.1.1.2.size; omega) (fun v1 wx ha1 hg1 hw1 => ?_)
  obtain ⟨p1, cap1, rfl, _⟩ := ha1.sl
  have k1 := (hg1.block r hS.1.1.1.lt (fun e => hS.1.1.1.apart e.symm)).trans hS.1.1.1.row
  have kA : ∀ (k : Nat) (o : Obj), w.heap.size ≤ k → wd.heap[k]? = some o → wx.heap[k]? = some o := fun k o hk1 hk => (hg1.block k (lt_of_heap hk) (fun e => by have := HOL.out k e.symm; omega)).trans hk
  have hap : (Value.slice p1 (n + 1) cap1).ownBlock ≠ some r := by
    rcases hw1 with hw1 | hw1
    · rw [hw1]; exact hS.1.1.1.apart
    · intro e; have := hw1 r e; have := hS.1.1.1.lt; omega
  have hwk : ∀ k, (Value.slice p1 (n + 1) cap1).ownBlock = some k → (Value.slice p n cap).ownBlock = some k ∨ w.heap.size + 3 ≤ k := fun k hk => by
    rcases hw1 with hw1 | hw1
    · exact .inl (hw1 ▸ hk)
    · have := hw1 k hk; have := lt_of_heap hS.1.2.2.2; exact .inr (by omega)
  have ht1 := hS.1.1.2.grown hg1 (fun k hk _ => .inr hk)
  have hst3 := stab_and (stab_and (stab_and (stab_owns (B := B) (sz := 5) (v := .slice p1 (n + 1) cap1) (n := n + 1) (xs := xs ++ advVals [a])) (stab_heap r (.cells #[.int .i64 room, .int .i64 (0 : Nat), .slice p n cap] 105 (0, 0)))) (stab_turned (S := fun k => k = r ∨ (Value.slice p n cap).ownBlock = some k) (w := w))) (stab_and (stab_heap (w.heap.size + 1) (.cells #[.int .i64 0, .int .i64 0, .int .i64 0, .int .i64 0, .int .i64 0] 24 (0, 0))) (stab_heap (w.heap.size + 2) (.cells #[.int .i64 0, .int .i64 0, .int .i64 0, .int .i64 0, .int .i64 0] 24 (0, 0))))
  have X3 := Lib.hid (And.intro (And.intro (And.intro ha1 k1) ht1) (And.intro (kA (w.heap.size + 1) _ (by omega) hS.1.2.2.1) (kA (w.heap.size + 2) _ (by omega) hS.1.2.2.2)))
  have HAP := Lib.hid hap
  have HWK := Lib.hid hwk
  have HLO := Lib.hid hS.1.1.1.low
  clear hS kA k1 hap hwk ht1 hg1 hw1 ha1 c28 hst2
  refine ⟨_, X3.out, hst3, .inl (by decide), ?_⟩
  clear X3
  have hst := hst3
  try simp only [act_norm]
  refine wpAnyE_take 8 (v := .pointer (some ⟨r, 0, none⟩)) rfl (by kernel_rfl) (by kernel_rfl) (by kernel_rfl) (fun _ _ _ h => h) hst (EffB.run rfl rfl (fun wd hS => ?_)) (.inr (EffB.run rfl rfl (fun wd hS => ?_))) ?_
  · (go_wp2; exact ⟨rfl, Below.refl _ _⟩)
  · (go_wp2; exact ⟨rfl, Below.refl _ _⟩)
  simp only [act_norm]
  refine wpAnyE_take 9 (v := .pointer (some ⟨r, 2, none⟩)) rfl (by kernel_rfl) (by kernel_rfl) (by kernel_rfl) (fun _ _ _ h => h) hst (EffB.run rfl rfl (fun wd hS => ?_)) (.inr (EffB.run rfl rfl (fun wd hS => ?_))) ?_
  · (go_wp2; exact ⟨rfl, Below.refl _ _⟩)
  · (go_wp2; exact ⟨rfl, Below.refl _ _⟩)
  simp only [act_norm]
  refine wpAnyE_one 10 rfl (by kernel_rfl) rfl (fun wd hS => ?_)
  have c3 : wd.cell? ⟨r, 2, none⟩ = some (.slice p n cap) := (by rw [cell_of_row _ _ _ _ _ _ hS.1.1.2]; rfl)
  have g3 := frozen_of_row wd r 2 _ _ hS.1.1.2
  have hr3 : RingAt 105 5 (wd.setCell ⟨r, 2, none⟩ (.slice p1 (n + 1) cap1)) B r (.slice p1 (n + 1) cap1) room 0 (n + 1) (xs ++ advVals [a]) :=
    ⟨HLO.out, by rw [heap_setCell_same _ _ _ _ _ _ hS.1.1.2]; rfl, hS.1.1.1.setOther _ HAP.out, HAP.out, fun h => by omega⟩
  have ht3 := hS.1.2.setCell (b := r) (j := 2) (.slice p1 (n + 1) cap1) (fun _ => .inl rfl)
  have hrw : r < w.heap.size := HLT.out
  have k1 : (wd.setCell ⟨r, 2, none⟩ (.slice p1 (n + 1) cap1)).heap[w.heap.size + 1]? = some (.cells #[.int .i64 0, .int .i64 0, .int .i64 0, .int .i64 0, .int .i64 0] 24 (0, 0)) := (Below.heap_setCell _ _ _ _ (by show w.heap.size + 1 ≠ r; omega)).trans hS.2.1
  have k2 : (wd.setCell ⟨r, 2, none⟩ (.slice p1 (n + 1) cap1)).heap[w.heap.size + 2]? = some (.cells #[.int .i64 0, .int .i64 0, .int .i64 0, .int .i64 0, .int .i64 0] 24 (0, 0)) := (Below.heap_setCell _ _ _ _ (by show w.heap.size + 2 ≠ r; omega)).trans hS.2.2
  have X4 := Lib.hid (And.intro (And.intro hr3 ht3) (And.intro k1 k2))
  have hst4 := stab_and (stab_and (stab_ring (TR := 105) (sz := 5) (B := B) (r := r) (v := .slice p1 (n + 1) cap1) (room := room) (first := 0) (n := n + 1) (xs := xs ++ advVals [a])) (stab_turned (S := fun k => k = r ∨ (Value.slice p n cap).ownBlock = some k) (w := w))) (stab_and (stab_heap (w.heap.size + 1) (.cells #[.int .i64 0, .int .i64 0, .int .i64 0, .int .i64 0, .int .i64 0] 24 (0, 0))) (stab_heap (w.heap.size + 2) (.cells #[.int .i64 0, .int .i64 0, .int .i64 0, .int .i64 0, .int .i64 0] 24 (0, 0))))
  clear hS hst hst3 hr3 ht3 k1 k2 hrw
  go_wp2
  refine ⟨_, X4.out, hst4, ?_⟩
  clear X4 c3 g3
  try simp only [act_norm]
  refine wpAnyE_done (by kernel_rfl) (fun wd4 hS => ?_) _
  have HS := Lib.hid hS
  have K1 := Lib.hid hS.2.1
  have K2 := Lib.hid hS.2.2
  clear hS
  go_wp2_with (first | ((with_reducible refine wpList_load_rowAs rfl 24 _ rfl ((w.heap.size + 2)) ?_ 24 #[.int .i64 0, .int .i64 0, .int .i64 0, .int .i64 0, .int .i64 0] (0, 0) _ 5 ?_ Try.underlying24 rfl (by kernel_rfl) ?_ ?_); exact rfl; exact K2.out; exact rfl) | ((with_reducible refine wpList_store_rowAs rfl 24 _ _ rfl ((w.heap.size + 1)) #[.int .i64 0, .int .i64 0, .int .i64 0, .int .i64 0, .int .i64 0] ?_ ?_ 24 #[.int .i64 0, .int .i64 0, .int .i64 0, .int .i64 0, .int .i64 0] 5 ?_ (by kernel_rfl) rfl rfl (by simp [Value.oneCell']) ?_); exact rfl; exact rfl; exact K1.out))
  have hrw := HLT.out
  have hN : (Value.slice p1 (n + 1) cap1).ownBlock ≠ some (w.heap.size + 1) := fun e => by
    rcases HWK.out _ e with h1 | h1
    · have := (HOL.out _ h1).2; omega
    · omega
  have hT := turned_setRow wd4 (w.heap.size + 1) #[.int .i64 0, .int .i64 0, .int .i64 0, .int .i64 0, .int .i64 0]
  refine bodyPost_ret (results_row_tmp rfl _ _ (w.heap.size + 1) 24 #[.int .i64 0, .int .i64 0, .int .i64 0, .int .i64 0, .int .i64 0] (0, 0) _ 5 _ rfl rfl (setRow_heap _ _ _ _ _ _ K1.out) Try.underlying24 rfl advSize5 rfl) rfl ⟨⟨_, rfl⟩, _, HS.out.1.1.turned hT (by omega) (fun k hk e => hN (e ▸ hk)), HS.out.1.2.trans hT (fun k hk e => by omega), fun k hk => (HWK.out k hk).imp id (fun h => by omega)⟩
end Go.Proofs.Ytildjnibdappnaa
