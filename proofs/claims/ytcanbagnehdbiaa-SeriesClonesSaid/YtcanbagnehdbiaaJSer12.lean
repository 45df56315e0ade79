/- A series: how many, the last one; one that was cloned; a nil one. -/
import Derived.Test.YtcanbagnehdbiaaJSer11
import Derived.Deep.MidRow
namespace Go.Proofs.Ytcanbagnehdbiaa
open Go.ChangeShapes Go.WideShapes Go.ChangeAt Go.RowKit

theorem sampSize2 : (Try.prog.info? 73).map (·.size) = some 2 := by kernel_rfl
theorem serSize2 : (Try.prog.info? 130).map (·.size) = some 2 := by kernel_rfl
theorem samp_mid {w : World} {B n g cap first : Nat} {xs cs : List Value} (h : Owns w B 2 (.slice (some ⟨g, 0, none⟩) n cap) n xs) (hf : first < n) (hy : ∀ j u, cs[j]? = some u → xs[first * 2 + j]? = some u) : w.rangeAt g (first * 2) cs := by
  intro j u hu
  obtain ⟨_, hO⟩ := h
  rcases hO with ⟨_, h0⟩ | ⟨g', cap', h0, _, _, _, h5, _⟩
  · omega
  · simp at h0; rw [h0.1]; exact h5 _ _ (hy j u hu)

theorem ser_len_nil (w : World) : Calls Try.prog 50 #[.pointer none] w fun e w' => e = .returned (.int .i64 0) ∧ w = w' := by
  go_enter Try.func50, Try.ntmps50
  go_wp2
  go_ret
  exact ⟨rfl, rfl⟩
theorem ser_len {w : World} {B s : Nat} {v : Value} {room : Nat} {L : List Samp} (h : SerAt w B s v room L) : Calls Try.prog 50 #[.pointer (some ⟨s, 0, none⟩)] w fun e w' => e = .returned (.int .i64 (L.length : Nat)) ∧ w = w' := by
  have c1 := h.cell1
  obtain ⟨p, cap, rfl, _, _⟩ := h.samps
  obtain ⟨n, en⟩ : ∃ n, n = L.length := ⟨_, rfl⟩
  rw [← en] at c1 ⊢
  clear h en
  go_enter Try.func50, Try.ntmps50
  go_wp2
  go_ret
  exact ⟨rfl, rfl⟩
theorem ser_list_nil (w : World) : Calls Try.prog 47 #[.pointer none] w fun e w' => e = .returned (.slice none 0 0) ∧ w = w' := by
  go_enter Try.func47, Try.ntmps47
  go_wp2
  go_ret
  exact ⟨rfl, rfl⟩
theorem ser_clone_nil (w : World) : Calls Try.prog 51 #[.pointer none] w fun e w' => e = .returned (.pointer none) ∧ w = w' := by
  go_enter Try.func51, Try.ntmps51
  go_wp2
  go_ret
  exact ⟨rfl, rfl⟩
theorem ser_trim_nil (t : Int) (w : World) : Calls Try.prog 39 #[.pointer none, .int .i64 t] w fun e w' => e = .returned (.int .i64 0) ∧ w = w' := by
  go_enter Try.func39, Try.ntmps39
  go_wp2
  go_ret
  exact ⟨rfl, rfl⟩
theorem ser_put_nil (x : Samp) (hc : Ser.code x = 0) (w : World) : Calls Try.prog 41 #[.pointer none, .int .i64 x.tick, .int .i64 x.val] w fun e w' => e = .returned (.int .i64 5) ∧ w = w' := by
  have F1 := Lib.hid (ser_right x)
  rw [hc] at F1
  clear hc
  go_enter Try.func41, Try.ntmps41
  go_wp2_with ((with_reducible refine (F1.out _).mono ?_); rintro e w1 ⟨rfl, rfl⟩)
  go_ret
  exact ⟨rfl, rfl⟩

set_option maxRecDepth 100000 in
theorem ser_last_none (a : Option Addr) (w : World) (hl : Calls Try.prog 50 #[.pointer a] (w.alloc (.cells #[.int .i64 0, .int .i64 0] 73)) fun e w' => e = .returned (.int .i64 0) ∧ w.alloc (.cells #[.int .i64 0, .int .i64 0] 73) = w') :
    Calls Try.prog 49 #[.pointer a] w fun e w' => e = .returned (.tuple #[.agg #[.int .i64 0, .int .i64 0], .bool false]) ∧ Below w.heap.size w w' := by
  have M1 : Hid (Mem w (w.alloc (.cells #[.int .i64 0, .int .i64 0] 73)) [(w.heap.size, .cells #[.int .i64 0, .int .i64 0] 73)]) := (Mem.start w).alloc _
  have K0 := Lib.hid (M1.out.heap 0 rfl)
  have H1 := Lib.hid hl
  clear hl
  go_enter Try.func49, Try.ntmps49
  go_wp2_with fail
  (with_reducible refine H1.out.mono ?_)
  rintro e w1 ⟨rfl, rfl⟩
  clear H1
  go_wp2_with ((with_reducible refine wpList_store_rowAs rfl 73 _ _ rfl (w.heap.size) #[.int .i64 0, .int .i64 0] ?_ ?_ 73 #[.int .i64 0, .int .i64 0] 2 ?_ (by kernel_rfl) rfl rfl (by simp [Value.oneCell']) ?_); exact rfl; exact rfl; exact K0.out)
  exact bodyPost_ret (results_row_tmp rfl _ _ w.heap.size 73 #[.int .i64 0, .int .i64 0] (0, 0) _ 2 _ rfl rfl ((M1.out.setRow 0 rfl).heap 0 rfl) Try.underlying73 rfl sampSize2 rfl) rfl ⟨rfl, (M1.out.setRow 0 rfl).below⟩
theorem ser_last_nil (w : World) : Calls Try.prog 49 #[.pointer none] w fun e w' => e = .returned (.tuple #[.agg #[.int .i64 0, .int .i64 0], .bool false]) ∧ Below w.heap.size w w' := ser_last_none none w (ser_len_nil _)
theorem ser_last_empty {w : World} {B s : Nat} {v : Value} {room : Nat} {L : List Samp} (h : SerAt w B s v room L) (h0 : L.length = 0) : Calls Try.prog 49 #[.pointer (some ⟨s, 0, none⟩)] w fun e w' => e = .returned (.tuple #[.agg #[.int .i64 0, .int .i64 0], .bool false]) ∧ Below w.heap.size w w' := by
  refine ser_last_none _ w ?_
  have := ser_len (h.below (below1 w (.cells #[.int .i64 0, .int .i64 0] 73)))
  rwa [h0] at this
set_option maxHeartbeats 1000000 in
set_option maxRecDepth 100000 in
theorem ser_last {w : World} {B s : Nat} {v : Value} {room : Nat} {L : List Samp} (h : SerAt w B s v room L) (h0 : 0 < L.length) (y : Samp) (hy : L[L.length - 1]? = some y) : Calls Try.prog 49 #[.pointer (some ⟨s, 0, none⟩)] w fun e w' => e = .returned (.tuple #[.agg #[.int .i64 y.tick, .int .i64 y.val], .bool true]) ∧ Below w.heap.size w w' := by
  have hA := h.below (below1 w (.cells #[.int .i64 0, .int .i64 0] 73))
  have h1 := Lib.hid (ser_len hA)
  obtain ⟨g, cap, rfl, _, _, _, _, _⟩ := h.owns.some_of h0
  have c1 := hA.cell1
  have hv : ∀ j u, (sampVals [y])[j]? = some u → (sampVals L)[(L.length - 1) * 2 + j]? = some u := fun j u hu => by
    have hj : j < 2 := by have := (List.getElem?_eq_some_iff.1 hu).1; simpa [sampVals] using this
    rw [sampVals_get L _ (by omega), show ((L.length - 1) * 2 + j) / 2 = L.length - 1 by omega, show ((L.length - 1) * 2 + j) % 2 = j % 2 by omega, hy]
    rw [← hu, sampVals_get [y] j (by simpa using hj), show j / 2 = 0 by omega]
    rfl
  have HV := Lib.hid hv
  have HA := Lib.hid hA
  obtain ⟨n, en⟩ : ∃ n, L.length = n + 1 := ⟨L.length - 1, by omega⟩
  rw [en] at h1 HV c1
  rw [show n + 1 - 1 = n by omega] at HV
  have HO : Hid (∀ W, SerAt W B s (.slice (some ⟨g, 0, none⟩) L.length cap) room L → Owns W B 2 (.slice (some ⟨g, 0, none⟩) (n + 1) cap) (n + 1) (sampVals L)) := fun W hW => en ▸ hW.owns
  have HRW : Hid (∀ W, SerAt W B s (.slice (some ⟨g, 0, none⟩) L.length cap) room L → W.heap[s]? = some (.cells #[.int .i64 room, .slice (some ⟨g, 0, none⟩) (n + 1 : Nat) cap] 130 (0, 0))) := fun W hW => en ▸ hW.row
  have hst := stab_and (stab_and (stab_ser (B := B) (s := s) (v := .slice (some ⟨g, 0, none⟩) L.length cap) (room := room) (L := L)) (stab_heap w.heap.size (.cells #[.int .i64 0, .int .i64 0] 73 (0, 0)))) (stab_below (B := w.heap.size) (w0 := w) (Nat.le_refl _))
  have hn256 : n ≤ 256 := by have := h.len; have := h.room2; omega
  have hw := Lib.hid (show wrap64 (n : Int) = n by unfold wrap64; omega)
  clear h hA hv hy h0 c1
  go_enter Try.func49, Try.ntmps49
  go_wp2_with fail
  (with_reducible refine h1.out.mono ?_)
  rintro e w1 ⟨rfl, rfl⟩
  clear h1
  go_wp2_with fail
  refine wp_region_E mixed [12] hst ⟨⟨HA.out.same (Nat.le_refl _) rfl (fun _ _ => rfl), heap_alloc_at _ _ _ rfl⟩, below_drew (below1 _ _)⟩ ?_
  refine wpAnyE_take 0 rfl (by kernel_rfl) (by kernel_rfl) (by kernel_rfl) (fun _ _ _ h => h) hst (EffB.pure rfl (fun _ => rfl)) (.inr (EffB.pure rfl (fun _ => rfl))) ?_
  simp only [act_norm]
  refine wpAnyE_take 1 (v := .pointer (some ⟨s, 0, none⟩)) rfl (by kernel_rfl) (by kernel_rfl) (by kernel_rfl) (fun _ _ _ h => h) hst (EffB.run rfl rfl (fun wd hS => ?_)) (.inr (EffB.run rfl rfl (fun wd hS => ?_))) ?_
  · (go_wp2; exact ⟨rfl, Below.refl _ _⟩)
  · (go_wp2; exact ⟨rfl, Below.refl _ _⟩)
  simp only [act_norm]
  refine wpAnyE_take 2 (v := .pointer (some ⟨s, 1, none⟩)) rfl (by kernel_rfl) (by kernel_rfl) (by kernel_rfl) (fun _ _ _ h => h) hst (EffB.run rfl rfl (fun wd hS => ?_)) (.inr (EffB.run rfl rfl (fun wd hS => ?_))) ?_
  · (go_wp2; exact ⟨rfl, Below.refl _ _⟩)
  · (go_wp2; exact ⟨rfl, Below.refl _ _⟩)
  simp only [act_norm]
  refine wpAnyE_take 3 (v := .slice (some ⟨g, 0, none⟩) (n + 1 : Nat) cap) rfl (by kernel_rfl) (by kernel_rfl) (by kernel_rfl) (fun _ _ _ h => h) hst (EffB.run rfl rfl (fun wd hS => ?_)) (.inl (by kernel_rfl)) ?_
  · (have c2 : wd.cell? ⟨s, 1, none⟩ = some (.slice (some ⟨g, 0, none⟩) (n + 1 : Nat) cap) := by rw [cell_of_row _ _ _ _ _ _ (HRW.out _ hS.1.1)]; rfl); go_wp2; exact ⟨rfl, Below.refl _ _⟩
  simp only [act_norm]
  refine wpAnyE_take 4 rfl (by kernel_rfl) (by kernel_rfl) (by kernel_rfl) (fun _ _ _ h => h) hst (EffB.pure rfl (fun _ => rfl)) (.inr (EffB.pure rfl (fun _ => rfl))) ?_
  simp only [act_norm]
  refine wpAnyE_take 5 (v := .pointer (some ⟨s, 0, none⟩)) rfl (by kernel_rfl) (by kernel_rfl) (by kernel_rfl) (fun _ _ _ h => h) hst (EffB.run rfl rfl (fun wd hS => ?_)) (.inr (EffB.run rfl rfl (fun wd hS => ?_))) ?_
  · (go_wp2; exact ⟨rfl, Below.refl _ _⟩)
  · (go_wp2; exact ⟨rfl, Below.refl _ _⟩)
  simp only [act_norm]
  refine wpAnyE_take 6 (v := .pointer (some ⟨s, 1, none⟩)) rfl (by kernel_rfl) (by kernel_rfl) (by kernel_rfl) (fun _ _ _ h => h) hst (EffB.run rfl rfl (fun wd hS => ?_)) (.inr (EffB.run rfl rfl (fun wd hS => ?_))) ?_
  · (go_wp2; exact ⟨rfl, Below.refl _ _⟩)
  · (go_wp2; exact ⟨rfl, Below.refl _ _⟩)
  simp only [act_norm]
  refine wpAnyE_take 7 (v := .slice (some ⟨g, 0, none⟩) (n + 1 : Nat) cap) rfl (by kernel_rfl) (by kernel_rfl) (by kernel_rfl) (fun _ _ _ h => h) hst (EffB.run rfl rfl (fun wd hS => ?_)) (.inl (by kernel_rfl)) ?_
  · (have c2 : wd.cell? ⟨s, 1, none⟩ = some (.slice (some ⟨g, 0, none⟩) (n + 1 : Nat) cap) := by rw [cell_of_row _ _ _ _ _ _ (HRW.out _ hS.1.1)]; rfl); go_wp2; exact ⟨rfl, Below.refl _ _⟩
  simp only [act_norm]
  refine wpAnyE_take 8 (v := .int .i64 ((n + 1 : Nat) : Int)) rfl (by kernel_rfl) (by kernel_rfl) (by kernel_rfl) (fun _ _ _ h => h) hst (EffB.run rfl rfl (fun wd hS => ?_)) (.inr (EffB.run rfl rfl (fun wd hS => ?_))) ?_
  · (go_wp2; exact ⟨rfl, Below.refl _ _⟩)
  · (go_wp2; exact ⟨rfl, Below.refl _ _⟩)
  simp only [act_norm]
  refine wpAnyE_take 9 (v := .int .i64 (n : Int)) rfl (by kernel_rfl) (by kernel_rfl) (by kernel_rfl) (fun _ _ _ h => h) hst (EffB.run rfl rfl (fun wd hS => ?_)) (.inr (EffB.run rfl rfl (fun wd hS => ?_))) ?_
  · (go_wp2; exact ⟨rfl, Below.refl _ _⟩)
  · (go_wp2; exact ⟨rfl, Below.refl _ _⟩)
  simp only [act_norm]
  try rw [hw.out]
  refine wpAnyE_take 10 (v := .pointer (some ⟨g, n * 2, none⟩)) rfl (by kernel_rfl) (by kernel_rfl) (by kernel_rfl) (fun _ _ _ h => h) hst (EffB.run rfl rfl (fun wd hS => ?_)) (.inr (EffB.run rfl rfl (fun wd hS => ?_))) ?_
  · (go_wp2; exact ⟨rfl, Below.refl _ _⟩)
  · (go_wp2; exact ⟨rfl, Below.refl _ _⟩)
  simp only [act_norm]
  refine wpAnyE_take 11 (v := .agg #[.int .i64 y.tick, .int .i64 y.val]) rfl (by kernel_rfl) (by kernel_rfl) (by kernel_rfl) (fun _ _ _ h => h) hst (EffB.run rfl rfl (fun wd hS => ?_)) (.inl (by kernel_rfl)) ?_
  · exact wp_load_mid 73 _ rfl g (n * 2) rfl (sampVals [y]) _ (samp_mid (HO.out _ hS.1.1) (Nat.lt_succ_self n) HV.out) Try.underlying73 rfl sampSize2 ⟨rfl, Below.refl _ _⟩
  simp only [act_norm]
  refine wpAnyE_one 12 rfl (by kernel_rfl) rfl (fun wd hS => ?_)
  have hst2 := stab_and (stab_heap w.heap.size (.cells #[.int .i64 y.tick, .int .i64 y.val] 73 (0, 0))) (stab_below (B := w.heap.size) (w0 := w) (Nat.le_refl _))
  refine wp_store_row 73 _ _ rfl w.heap.size #[.int .i64 y.tick, .int .i64 y.val] rfl rfl 73 #[.int .i64 0, .int .i64 0] hS.1.2 sampSize2 rfl (by simp [Value.oneCell']) ?_
  refine ⟨_, ⟨setRow_heap _ _ _ _ _ _ hS.1.2, below_setRow hS.2 (Nat.le_refl _) _⟩, hst2, .inl (by decide), ?_⟩
  clear hS hst
  have hst := hst2
  try simp only [act_norm]
  refine wpAnyE_take 13 rfl (by kernel_rfl) (by kernel_rfl) (by kernel_rfl) (fun _ _ _ h => h) hst (EffB.pure rfl (fun _ => rfl)) (.inr (EffB.pure rfl (fun _ => rfl))) ?_
  simp only [act_norm]
  refine wpAnyE_done (by kernel_rfl) (fun wd hS => ?_) _
  have HS := Lib.hid hS
  clear hS
  go_wp2
  exact bodyPost_ret (results_row_tmp rfl _ _ w.heap.size 73 #[.int .i64 y.tick, .int .i64 y.val] (0, 0) _ 2 _ rfl rfl HS.out.1 Try.underlying73 rfl sampSize2 rfl) rfl ⟨rfl, HS.out.2⟩
end Go.Proofs.Ytcanbagnehdbiaa
