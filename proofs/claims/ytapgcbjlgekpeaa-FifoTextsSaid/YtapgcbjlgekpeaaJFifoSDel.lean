/- slices.Delete of one element, of a queue's items. -/
import Derived.Test.YtapgcbjlgekpeaaJFifoS
import Derived.Test.YtapgcbjlgekpeaaJSer
namespace Go.Proofs.Ytapgcbjlgekpeaa
open Go.ChangeShapes Go.WideShapes Go.ChangeAt Go.RowKit

set_option maxHeartbeats 2000000 in
set_option maxRecDepth 100000 in
theorem fifoS_delete_mid (B g q c m i : Nat) (xs : List Value) (hn : m ≤ 100000) (hi : i ≤ m) (hc : ¬ c = i + 1) (w : World) (hO : OwnsO w B 1 (.slice (some ⟨g, q, none⟩) (m + 1 : Nat) c) (m + 1) xs) (h1 : ∀ u ∈ xs, u.oneCell' = true) :
    Calls Try.prog 109 #[.slice (some ⟨g, q, none⟩) (m + 1 : Nat) c, .int .i64 i, .int .i64 ((i : Int) + 1)] w fun e w' =>
      e = .returned (.slice (some ⟨g, q, none⟩) m c) ∧ OwnsO w' B 1 (.slice (some ⟨g, q, none⟩) m c) m (xs.take i ++ xs.drop (i + 1)) ∧ Turned (fun k => k = g) w w' := by
  obtain ⟨g', q', c', e, _, _, hnc, _, _⟩ := hO.some_of (by omega)
  simp only [Value.slice.injEq, Option.some.injEq, Addr.mk.injEq, and_true, true_and] at e
  obtain ⟨⟨rfl, rfl⟩, rfl⟩ := e
  obtain ⟨i0, hi0, hz0, hzs, hzb⟩ := info_parts fifoS_info
  have hlx : xs.length = m + 1 := by have := hO.1; omega
  obtain ⟨j, ej⟩ : ∃ j, j = i + 1 := ⟨_, rfl⟩
  have eji : (i : Int) + 1 = (j : Int) := by omega
  rw [eji, ← ej]
  rw [← ej] at hc
  have hdl : (xs.drop j).length = m + 1 - j := by rw [List.length_drop]; omega
  have htl : (xs.take i).length = i := by rw [List.length_take]; omega
  have O := Lib.hid hO
  have hst := stab_and (stab_ownsO (B := B) (sz := 1) (v := .slice (some ⟨g, q, none⟩) (m + 1 : Nat) c) (n := m + 1) (xs := xs)) (stab_turned (S := fun k => k = g) (w := w))
  have HAP : Hid (∀ wd : World, OwnsO wd B 1 (.slice (some ⟨g, q, none⟩) (m + 1 : Nat) c) (m + 1) xs → ∀ (o sc : Nat) (_ : m + 1 = j ∨ o = q + j) (ty : TypeId), (Builtin.append_ #[92, 92] ty #[.slice (some ⟨g, q, none⟩) i c, .slice (some ⟨g, o, none⟩) (m + 1 - j) sc]).run Try.prog wd = .ok (.slice (some ⟨g, q, none⟩) m c) (wd.setCells g (q + i) (xs.drop j))) := by
    intro wd hw o sc ho ty
    obtain ⟨g', q', c', e, _, _, _, hcell, hth⟩ := hw.some_of (by omega)
    simp only [Value.slice.injEq, Option.some.injEq, Addr.mk.injEq, and_true, true_and] at e
    obtain ⟨⟨rfl, rfl⟩, rfl⟩ := e
    have hrun := run_append_room_cells (P := Try.prog) wd 92 ty 9 i0 Try.underlying92 hi0 g q i c ⟨g, o, none⟩ (m + 1 - j) sc (xs.drop j) (by rw [hzs, hdl]; omega)
      (fun k v hk => by
        rw [Addr.add_mid]
        have hkl := (List.getElem?_eq_some_iff.1 hk).1
        have ho2 : o = q + j := by rcases ho with h | h; omega; exact h
        rw [ho2, Nat.add_assoc]
        exact hcell _ _ (by rwa [List.getElem?_drop] at hk))
      (fun v hv => h1 v (List.mem_of_mem_drop hv)) (by omega) (fun k hk => by have := (hth (i * i0.size + k) (by rw [hzs]; omega)).1; rwa [← Nat.add_assoc] at this) (fun k hk => by have := (hth (i * i0.size + k) (by rw [hzs]; omega)).2; rwa [← Nat.add_assoc] at this)
    rw [hzs, Nat.mul_one, show i + (m + 1 - j) = m by omega] at hrun
    exact hrun
  have HO2 : Hid (∀ wd : World, OwnsO wd B 1 (.slice (some ⟨g, q, none⟩) (m + 1 : Nat) c) (m + 1) xs → OwnsO (wd.setCells g (q + i) (xs.drop j)) B 1 (.slice (some ⟨g, q, none⟩) (m + 1 : Nat) c) (m + 1) (xs.take i ++ xs.drop j ++ xs.drop m)) := by
    intro wd hw
    refine hw.putAt rfl i _ (m + 1) hnc (by rw [hdl]; omega) _ (by rw [List.length_append, List.length_append, htl, hdl, List.length_drop]; omega) (fun k hk => ?_)
    by_cases h : k < i
    · rw [if_neg (by omega), List.getElem?_append_left (by rw [List.length_append]; omega), List.getElem?_append_left (by omega), List.getElem?_take_of_lt h]
    · by_cases h2 : k < m
      · rw [if_pos (by omega), List.getElem?_append_left (by rw [List.length_append]; omega), List.getElem?_append_right (by omega), htl]
      · rw [if_neg (by omega), List.getElem?_append_right (by rw [List.length_append]; omega), List.length_append, htl, hdl, List.getElem?_drop]
        congr 1
        omega
  obtain ⟨zs, ezs⟩ : ∃ zs, zs = (Builtin.zeroCells #[.string ByteArray.empty] 1).toList := ⟨_, rfl⟩
  have hzl : zs = [.string ByteArray.empty] := by rw [ezs]; simp [Builtin.zeroCells]
  have hz1 : ∀ v ∈ zs, v.oneCell' = true := fun v hv => by rw [hzl] at hv; simp at hv; subst hv; rfl
  have HCL : Hid (∀ wd : World, OwnsO wd B 1 (.slice (some ⟨g, q, none⟩) (m + 1 : Nat) c) (m + 1) (xs.take i ++ xs.drop j ++ xs.drop m) → ∀ sc ty, (Builtin.clear_ #[92] ty #[.slice (some ⟨g, q + m, none⟩) 1 sc]).run Try.prog wd = .ok (.tuple #[]) (wd.setCells g (q + m) zs)) := by
    intro wd hw sc ty
    obtain ⟨g', q', c', e, _, _, _, hcell, hth⟩ := hw.some_of (by omega)
    simp only [Value.slice.injEq, Option.some.injEq, Addr.mk.injEq, and_true, true_and] at e
    obtain ⟨⟨rfl, rfl⟩, rfl⟩ := e
    exact run_clear_sz (P := Try.prog) wd 92 9 ty (.string ByteArray.empty) zs Try.underlying92 (fun w => by kernel_rfl) g (q + m) 1 sc (by omega) ezs.symm hz1 (fun k hk => by have := hth (m + k) (by rw [hzl] at hk; simp at hk; omega); rwa [← Nat.add_assoc] at this)
  have HO3 : Hid (∀ wd : World, OwnsO wd B 1 (.slice (some ⟨g, q, none⟩) (m + 1 : Nat) c) (m + 1) (xs.take i ++ xs.drop j ++ xs.drop m) → OwnsO (wd.setCells g (q + m) zs) B 1 (.slice (some ⟨g, q, none⟩) m c) m (xs.take i ++ xs.drop j)) := by
    intro wd hw
    refine hw.putAt rfl m zs m (by omega) (by rw [hzl]; simp; omega) _ (by rw [List.length_append, htl, hdl]; omega) (fun k hk => ?_)
    rw [if_neg (by omega)]
    exact (List.getElem?_append_left (by rw [List.length_append]; omega)).symm
  have z1 : (0 : Int) ≤ (i : Int) := by omega
  have z2 : ¬ (i : Int) = (j : Int) := by omega
  have z3 : ((i : Int) == (j : Int)) = false := beq_eq_false_iff_ne.2 z2
  have z4 : (j : Int) ≤ (m : Int) + 1 := by omega
  have z5 : m + 1 ≤ c := hnc
  have z6 : (i : Int) ≤ (j : Int) := by omega
  have z7 : ¬ c = m := by omega
  have z8 : (0 : Int) ≤ (j : Int) := by omega
  have z9 : ¬ m + 1 = i := by omega
  have za : (i : Int) ≤ (m : Int) + 1 := by omega
  have zb : (0 : Int) ≤ (m : Int) := by omega
  have zc : (i : Int) ≤ (c : Int) := by omega
  have HZ := Lib.hid hc
  have EJ := Lib.hid ej
  clear hO h1 hlx hdl htl hi0 hz0 hzs hzb ezs hz1 ej eji 
  go_enter Try.func109, Try.ntmps109
  go_wp2_with fail
  refine wp_region_E mixed [6] hst ⟨O.out.below (below_drew (Below.refl _ _)), (Turned.refl (S := fun k => k = g)).drewN 1⟩ ?_
  refine wpAnyE_take 0 rfl (by kernel_rfl) (by kernel_rfl) (by kernel_rfl) (fun _ _ _ h => h) hst (EffB.pure rfl (fun _ => rfl)) (.inr (EffB.pure rfl (fun _ => rfl))) ?_
  simp only [act_norm]
  refine wpAnyE_take 1 rfl (by kernel_rfl) (by kernel_rfl) (by kernel_rfl) (fun _ _ _ h => h) hst (EffB.pure rfl (fun _ => rfl)) (.inr (EffB.pure rfl (fun _ => rfl))) ?_
  simp only [act_norm]
  refine wpAnyE_take 2 (v := .slice (some ⟨g, q, none⟩) i c) rfl (by kernel_rfl) (by kernel_rfl) (by kernel_rfl) (fun _ _ _ h => h) hst (EffB.run rfl rfl (fun wd hS => ?_)) (.inr (EffB.run rfl rfl (fun wd hS => ?_))) ?_
  · (go_wp2; exact ⟨rfl, Below.refl _ _⟩)
  · (go_wp2; exact ⟨rfl, Below.refl _ _⟩)
  simp only [act_norm]
  refine wpAnyE_take 3 rfl (by kernel_rfl) (by kernel_rfl) (by kernel_rfl) (fun _ _ _ h => h) hst (EffB.pure rfl (fun _ => rfl)) (.inr (EffB.pure rfl (fun _ => rfl))) ?_
  simp only [act_norm]
  refine wpAnyE_take 4 rfl (by kernel_rfl) (by kernel_rfl) (by kernel_rfl) (fun _ _ _ h => h) hst (EffB.pure rfl (fun _ => rfl)) (.inr (EffB.pure rfl (fun _ => rfl))) ?_
  simp only [act_norm]
  refine wpAnyE_take 5 (v := .slice (some ⟨g, q + j, none⟩) (m + 1 - j) (c - j)) rfl (by kernel_rfl) (by kernel_rfl) (by kernel_rfl) (fun _ _ _ h => h) hst (EffB.run rfl rfl (fun wd hS => ?_)) (.inr (EffB.run rfl rfl (fun wd hS => ?_))) ?_
  · (go_wp2; exact ⟨rfl, Below.refl _ _⟩)
  · (go_wp2; exact ⟨rfl, Below.refl _ _⟩)
  simp only [act_norm]
  refine wpAnyE_one 6 rfl (by kernel_rfl) rfl (fun wd hS => ?_)
  refine wp_append_eq _ _ 92 92 rfl _ _ rfl rfl (HAP.out wd hS.1 _ _ (.inr rfl)) ?_
  have hO2 := HO2.out wd hS.1
  have hT2 := hS.2.trans (turned_setCells wd g (xs.drop j) (q + i) (fun k => k = g) rfl) (fun _ _ h => h)
  have hst2 := stab_and (stab_ownsO (B := B) (sz := 1) (v := .slice (some ⟨g, q, none⟩) (m + 1 : Nat) c) (n := m + 1) (xs := xs.take i ++ xs.drop j ++ xs.drop m)) (stab_turned (S := fun k => k = g) (w := w))
  refine ⟨_, ⟨hO2, hT2⟩, hst2, .inl (by decide), ?_⟩
  clear hS hO2 hT2 hst
  try simp only [act_norm]
  have hst := hst2
  refine wpAnyE_take 7 rfl (by kernel_rfl) (by kernel_rfl) (by kernel_rfl) (fun _ _ _ h => h) hst (EffB.pure rfl (fun _ => rfl)) (.inr (EffB.pure rfl (fun _ => rfl))) ?_
  simp only [act_norm]
  refine wpAnyE_done (by kernel_rfl) (fun wd hS => ?_) _
  have HC := Lib.hid (HCL.out wd hS.1)
  have HO := Lib.hid (HO3.out wd hS.1)
  have HT := Lib.hid (hS.2.trans (turned_setCells wd g zs (q + m) (fun k => k = g) rfl) (fun _ _ h => h))
  obtain ⟨W, hW⟩ : ∃ W, W = wd.setCells g (q + m) zs := ⟨_, rfl⟩
  rw [← hW] at HC HO HT
  clear hS hW hst2
  go_wp2_with (simp only [HC.out])
  go_ret
  exact ⟨rfl, HO.out, HT.out⟩
set_option maxHeartbeats 2000000 in
set_option maxRecDepth 100000 in
theorem fifoS_delete_end (B g q m : Nat) (xs : List Value) (hn : m ≤ 100000) (w : World) (hO : OwnsO w B 1 (.slice (some ⟨g, q, none⟩) (m + 1 : Nat) (m + 1)) (m + 1) xs) :
    Calls Try.prog 109 #[.slice (some ⟨g, q, none⟩) (m + 1 : Nat) (m + 1), .int .i64 m, .int .i64 ((m : Int) + 1)] w fun e w' =>
      e = .returned (.slice (some ⟨g, q, none⟩) m (m + 1)) ∧ OwnsO w' B 1 (.slice (some ⟨g, q, none⟩) m (m + 1)) m (xs.take m) ∧ Turned (fun k => k = g) w w' := by
  obtain ⟨i0, hi0, hz0, hzs, hzb⟩ := info_parts fifoS_info
  have hlx : xs.length = m + 1 := by have := hO.1; omega
  have htl : (xs.take m).length = m := by rw [List.length_take]; omega
  have O := Lib.hid hO
  have hst := stab_and (stab_ownsO (B := B) (sz := 1) (v := .slice (some ⟨g, q, none⟩) (m + 1 : Nat) (m + 1)) (n := m + 1) (xs := xs)) (stab_turned (S := fun k => k = g) (w := w))
  have HAP : Hid (∀ wd : World, ∀ (o sc : Nat) (ty : TypeId), (Builtin.append_ #[92, 92] ty #[.slice (some ⟨g, q, none⟩) m (m + 1), .slice (some ⟨g, o, none⟩) 0 sc]).run Try.prog wd = .ok (.slice (some ⟨g, q, none⟩) m (m + 1)) wd) := by
    intro wd o sc ty
    have hrun := run_append_room_cells (P := Try.prog) wd 92 ty 9 i0 Try.underlying92 hi0 g q m (m + 1) ⟨g, o, none⟩ 0 sc [] (by simp) (fun k v hk => by simp at hk) (fun v hv => by simp at hv) (by omega) (fun k hk => by simp at hk) (fun k hk => by simp at hk)
    exact hrun
  obtain ⟨zs, ezs⟩ : ∃ zs, zs = (Builtin.zeroCells #[.string ByteArray.empty] 1).toList := ⟨_, rfl⟩
  have hzl : zs = [.string ByteArray.empty] := by rw [ezs]; simp [Builtin.zeroCells]
  have hz1 : ∀ v ∈ zs, v.oneCell' = true := fun v hv => by rw [hzl] at hv; simp at hv; subst hv; rfl
  have HCL : Hid (∀ wd : World, OwnsO wd B 1 (.slice (some ⟨g, q, none⟩) (m + 1 : Nat) (m + 1)) (m + 1) xs → ∀ sc ty, (Builtin.clear_ #[92] ty #[.slice (some ⟨g, q + m, none⟩) 1 sc]).run Try.prog wd = .ok (.tuple #[]) (wd.setCells g (q + m) zs)) := by
    intro wd hw sc ty
    obtain ⟨g', q', c', e, _, _, _, hcell, hth⟩ := hw.some_of (by omega)
    simp only [Value.slice.injEq, Option.some.injEq, Addr.mk.injEq, and_true, true_and] at e
    obtain ⟨⟨rfl, rfl⟩, rfl⟩ := e
    exact run_clear_sz (P := Try.prog) wd 92 9 ty (.string ByteArray.empty) zs Try.underlying92 (fun w => by kernel_rfl) g (q + m) 1 sc (by omega) ezs.symm hz1 (fun k hk => by have := hth (m + k) (by rw [hzl] at hk; simp at hk; omega); rwa [← Nat.add_assoc] at this)
  have HO3 : Hid (∀ wd : World, OwnsO wd B 1 (.slice (some ⟨g, q, none⟩) (m + 1 : Nat) (m + 1)) (m + 1) xs → OwnsO (wd.setCells g (q + m) zs) B 1 (.slice (some ⟨g, q, none⟩) m (m + 1)) m (xs.take m)) := by
    intro wd hw
    refine hw.putAt rfl m zs m (by omega) (by rw [hzl]; simp) _ (by rw [htl]; omega) (fun k hk => ?_)
    rw [if_neg (by omega), List.getElem?_take_of_lt (by omega)]
  have z1 : (0 : Int) ≤ (m : Int) := by omega
  have z2 : ¬ (m : Int) = (m : Int) + 1 := by omega
  have z3 : ((m : Int) == (m : Int) + 1) = false := beq_eq_false_iff_ne.2 z2
  have z7 : ¬ m + 1 = m := by omega
  have za : (m : Int) ≤ (m : Int) + 1 := by omega
  have zb : (0 : Int) ≤ (m : Int) + 1 := by omega
  clear hO hlx htl hi0 hz0 hzs hzb ezs hz1
  go_enter Try.func109, Try.ntmps109
  go_wp2_with fail
  refine wp_region_E mixed [6] hst ⟨O.out.below (below_drew (Below.refl _ _)), (Turned.refl (S := fun k => k = g)).drewN 1⟩ ?_
  refine wpAnyE_take 0 rfl (by kernel_rfl) (by kernel_rfl) (by kernel_rfl) (fun _ _ _ h => h) hst (EffB.pure rfl (fun _ => rfl)) (.inr (EffB.pure rfl (fun _ => rfl))) ?_
  simp only [act_norm]
  refine wpAnyE_take 1 rfl (by kernel_rfl) (by kernel_rfl) (by kernel_rfl) (fun _ _ _ h => h) hst (EffB.pure rfl (fun _ => rfl)) (.inr (EffB.pure rfl (fun _ => rfl))) ?_
  simp only [act_norm]
  refine wpAnyE_take 2 (v := .slice (some ⟨g, q, none⟩) m (m + 1)) rfl (by kernel_rfl) (by kernel_rfl) (by kernel_rfl) (fun _ _ _ h => h) hst (EffB.run rfl rfl (fun wd hS => ?_)) (.inr (EffB.run rfl rfl (fun wd hS => ?_))) ?_
  · (go_wp2; exact ⟨rfl, Below.refl _ _⟩)
  · (go_wp2; exact ⟨rfl, Below.refl _ _⟩)
  simp only [act_norm]
  refine wpAnyE_take 3 rfl (by kernel_rfl) (by kernel_rfl) (by kernel_rfl) (fun _ _ _ h => h) hst (EffB.pure rfl (fun _ => rfl)) (.inr (EffB.pure rfl (fun _ => rfl))) ?_
  simp only [act_norm]
  refine wpAnyE_take 4 rfl (by kernel_rfl) (by kernel_rfl) (by kernel_rfl) (fun _ _ _ h => h) hst (EffB.pure rfl (fun _ => rfl)) (.inr (EffB.pure rfl (fun _ => rfl))) ?_
  simp only [act_norm]
  refine wpAnyE_take 5 (v := .slice (some ⟨g, q, none⟩) 0 0) rfl (by kernel_rfl) (by kernel_rfl) (by kernel_rfl) (fun _ _ _ h => h) hst (EffB.run rfl rfl (fun wd hS => ?_)) (.inr (EffB.run rfl rfl (fun wd hS => ?_))) ?_
  · (go_wp2; exact ⟨rfl, Below.refl _ _⟩)
  · (go_wp2; exact ⟨rfl, Below.refl _ _⟩)
  simp only [act_norm]
  refine wpAnyE_one 6 rfl (by kernel_rfl) rfl (fun wd hS => ?_)
  refine wp_append_eq _ _ 92 92 rfl _ _ rfl rfl (HAP.out wd _ _) ?_
  refine ⟨_, hS, hst, (by first | exact .inl (by decide) | exact fun _ h => h), ?_⟩
  clear hS
  try simp only [act_norm]
  refine wpAnyE_take 7 rfl (by kernel_rfl) (by kernel_rfl) (by kernel_rfl) (fun _ _ _ h => h) hst (EffB.pure rfl (fun _ => rfl)) (.inr (EffB.pure rfl (fun _ => rfl))) ?_
  simp only [act_norm]
  refine wpAnyE_done (by kernel_rfl) (fun wd hS => ?_) _
  have HC := Lib.hid (HCL.out wd hS.1)
  have HO := Lib.hid (HO3.out wd hS.1)
  have HT := Lib.hid (hS.2.trans (turned_setCells wd g zs (q + m) (fun k => k = g) rfl) (fun _ _ h => h))
  obtain ⟨W, hW⟩ : ∃ W, W = wd.setCells g (q + m) zs := ⟨_, rfl⟩
  rw [← hW] at HC HO HT
  clear hS hW hst
  go_wp2_with (simp only [HC.out])
  go_ret
  exact ⟨rfl, HO.out, HT.out⟩

theorem fifoS_delete {w : World} {B n : Nat} {v : Value} {xs : List Value} (h : OwnsO w B 1 v n xs) (hn : n ≤ 100000) (i : Nat) (hi : i < n) (h1 : ∀ u ∈ xs, u.oneCell' = true) :
    Calls Try.prog 109 #[v, .int .i64 i, .int .i64 ((i : Int) + 1)] w fun e w' => ∃ v', e = .returned v' ∧ OwnsO w' B 1 v' (n - 1) (xs.take i ++ xs.drop (i + 1)) ∧ Turned (fun k => v.ownBlock = some k) w w' ∧ v'.ownBlock = v.ownBlock := by
  obtain ⟨m, rfl⟩ : ∃ m, n = m + 1 := ⟨n - 1, by omega⟩
  obtain ⟨g, q, c, rfl, _, _, hnc, _, _⟩ := h.some_of (by omega)
  by_cases hc : c = i + 1
  · obtain rfl : i = m := by omega
    subst hc
    refine (fifoS_delete_end B g q i xs (by omega) w h).mono ?_
    rintro e w' ⟨rfl, ho, ht⟩
    refine ⟨_, rfl, ?_, ht.mono (fun k _ e => by rw [show k = g from e]; rfl), rfl⟩
    rw [List.drop_of_length_le (by have := h.1; omega), List.append_nil]
    exact ho
  · refine (fifoS_delete_mid B g q c m i xs (by omega) (by omega) hc w h h1).mono ?_
    rintro e w' ⟨rfl, ho, ht⟩
    exact ⟨_, rfl, ho, ht.mono (fun k _ e => by rw [show k = g from e]; rfl), rfl⟩
end Go.Proofs.Ytapgcbjlgekpeaa
