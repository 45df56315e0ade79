/- slices.Delete of all samples. -/
import Derived.Test.YtapgcbjlgekpeaaJSer
namespace Go.Proofs.Ytapgcbjlgekpeaa
open Go.ChangeShapes Go.WideShapes Go.ChangeAt Go.RowKit

set_option maxHeartbeats 2000000 in
set_option maxRecDepth 100000 in
theorem delete_all (B g j : Nat) (xs : List Value) (hn : j ≤ 100000) (hj : 1 ≤ j) (w : World) (hO : Owns w B 2 (.slice (some ⟨g, 0, none⟩) j j) j xs) (h1 : ∀ u ∈ xs, u.oneCell' = true) :
    Calls Try.prog 171 #[.slice (some ⟨g, 0, none⟩) j j, .int .i64 0, .int .i64 j] w fun e w' =>
      e = .returned (.slice (some ⟨g, 0, none⟩) 0 j) ∧ Owns w' B 2 (.slice (some ⟨g, 0, none⟩) 0 j) 0 (xs.drop (j * 2)) ∧ Turned (fun k => k = g) w w' := by
  obtain ⟨g', c', e, _, _, hnc, _, _⟩ := hO.some_of (by omega)
  simp only [Value.slice.injEq, Option.some.injEq, Addr.mk.injEq, and_true, true_and] at e
  obtain ⟨rfl, rfl⟩ := e
  obtain ⟨i0, hi0, hz0, hzs, hzb⟩ := info_parts sampInfo
  have hlx : xs.length = j * 2 := hO.1
  have hdl : (xs.drop (j * 2)).length = 0 := by rw [List.length_drop]; omega
  have O := Lib.hid hO
  have H1 := Lib.hid h1
  have HLX := Lib.hid hlx
  have HDL := Lib.hid hdl
  have hsz : (Try.prog.info? 23).map (·.size) = some 2 := by kernel_rfl
  have HI := Lib.hid (And.intro hi0 hzs)
  have hst := stab_and (stab_owns (B := B) (sz := 2) (v := .slice (some ⟨g, 0, none⟩) j j) (n := j) (xs := xs)) (stab_turned (S := fun k => k = g) (w := w))
  have HAP : Hid (∀ wd : World, Owns wd B 2 (.slice (some ⟨g, 0, none⟩) j j) j xs → ∀ (o sc : Nat) (ty : TypeId), (Builtin.append_ #[37, 37] ty #[.slice (some ⟨g, 0, none⟩) 0 j, .slice (some ⟨g, o, none⟩) 0 sc]).run Try.prog wd = .ok (.slice (some ⟨g, 0, none⟩) 0 j) (wd.setCells g 0 (xs.drop (j * 2)))) := by
    intro wd hw o sc ty
    obtain ⟨g', c', e, _, _, _, hcell, hth⟩ := hw.some_of (by omega)
    simp only [Value.slice.injEq, Option.some.injEq, Addr.mk.injEq, and_true, true_and] at e
    obtain ⟨rfl, rfl⟩ := e
    have hrun := run_append_room_cells (P := Try.prog) wd 37 ty 23 i0 Try.underlying37 hi0 g 0 0 j ⟨g, o, none⟩ 0 sc (xs.drop (j * 2)) (by rw [hzs]; exact hdl)
      (fun k v hk => by
        rw [Addr.add_mid]
        have hkl := (List.getElem?_eq_some_iff.1 hk).1
        omega)
      (fun v hv => h1 v (List.mem_of_mem_drop hv)) (by omega) (fun k hk => by have := (hth (0 + 0 * i0.size + k) (by omega)).1; rwa [Nat.zero_add] at this) (fun k hk => by have := (hth (0 + 0 * i0.size + k) (by omega)).2; rwa [Nat.zero_add] at this)
    simp only [Nat.zero_mul, Nat.zero_add] at hrun
    exact hrun
  have HO2 : Hid (∀ wd : World, Owns wd B 2 (.slice (some ⟨g, 0, none⟩) j j) j xs → Owns (wd.setCells g 0 (xs.drop (j * 2))) B 2 (.slice (some ⟨g, 0, none⟩) j j) j (xs.drop (j * 2) ++ xs.drop (0))) := by
    intro wd hw
    refine hw.putAt rfl 0 _ j hnc (by rw [hdl]; omega) _ (by rw [List.length_append, hdl, List.length_drop]; omega) (fun k hk => ?_)
    by_cases h : k < 0
    · rw [if_pos (by omega), List.getElem?_append_left (by omega)]; rfl
    · rw [if_neg (by omega), List.getElem?_append_right (by omega), hdl, List.getElem?_drop]
      congr 1
      omega
  obtain ⟨zs, ezs⟩ : ∃ zs, zs = (Builtin.zeroCells #[.int .i64 0, .int .i64 0] j).toList := ⟨_, rfl⟩
  have hzl : zs.length = j * 2 := by rw [ezs, Array.length_toList, zeroCells_size2]
  have hz1 : ∀ v ∈ zs, v.oneCell' = true := fun v hv => by rw [zeroCells_all j v (by rw [← ezs]; exact hv)]; rfl
  have HCL : Hid (∀ wd : World, Owns wd B 2 (.slice (some ⟨g, 0, none⟩) j j) j (xs.drop (j * 2) ++ xs.drop (0)) → ∀ sc ty, (Builtin.clear_ #[37] ty #[.slice (some ⟨g, 0, none⟩) j sc]).run Try.prog wd = .ok (.tuple #[]) (wd.setCells g (0) zs)) := by
    intro wd hw sc ty
    obtain ⟨g', c', e, _, _, _, hcell, hth⟩ := hw.some_of (by omega)
    simp only [Value.slice.injEq, Option.some.injEq, Addr.mk.injEq, and_true, true_and] at e
    obtain ⟨rfl, rfl⟩ := e
    exact run_clear_sz (P := Try.prog) wd 37 23 ty (.agg #[.int .i64 0, .int .i64 0]) zs Try.underlying37 (fun w => by kernel_rfl) g (0) j sc (by omega) ezs.symm hz1 (fun k hk => by have := hth (0 + k) (by omega); rwa [Nat.zero_add] at this)
  have HO3 : Hid (∀ wd : World, Owns wd B 2 (.slice (some ⟨g, 0, none⟩) j j) j (xs.drop (j * 2) ++ xs.drop (0)) → Owns (wd.setCells g (0) zs) B 2 (.slice (some ⟨g, 0, none⟩) 0 j) 0 (xs.drop (j * 2))) := by
    intro wd hw
    refine hw.putAt rfl (0) zs 0 (by omega) (by omega) _ hdl (fun k hk => ?_)
    rw [if_neg (by omega), List.getElem?_append_left (by omega)]
  have z1 : (0 : Int) ≤ (j : Int) := by omega
  have z2 : ¬ (0 : Int) = (j : Int) := by omega
  have z3 : ((0 : Int) == (j : Int)) = false := beq_eq_false_iff_ne.2 z2
  have z4 : (j : Int) ≤ (j : Int) := by omega
  have z6 : (0 : Int) ≤ (j : Int) := by omega
  have z8 : (0 : Int) ≤ (j : Int) := by omega
  clear hO h1 hlx hdl hi0 hz0 hzs hzb ezs hz1 hzl
  go_enter Try.func171, Try.ntmps171
  go_wp2_with fail
  refine wp_region_E mixed [6] hst ⟨O.out.below (below_drew (Below.refl _ _)), (Turned.refl (S := fun k => k = g)).drewN 1⟩ ?_
  refine wpAnyE_take 0 rfl (by kernel_rfl) (by kernel_rfl) (by kernel_rfl) (fun _ _ _ h => h) hst (EffB.pure rfl (fun _ => rfl)) (.inr (EffB.pure rfl (fun _ => rfl))) ?_
  simp only [act_norm]
  refine wpAnyE_take 1 rfl (by kernel_rfl) (by kernel_rfl) (by kernel_rfl) (fun _ _ _ h => h) hst (EffB.pure rfl (fun _ => rfl)) (.inr (EffB.pure rfl (fun _ => rfl))) ?_
  simp only [act_norm]
  refine wpAnyE_take 2 (v := .slice (some ⟨g, 0, none⟩) 0 j) rfl (by kernel_rfl) (by kernel_rfl) (by kernel_rfl) (fun _ _ _ h => h) hst (EffB.run rfl rfl (fun wd hS => ?_)) (.inr (EffB.run rfl rfl (fun wd hS => ?_))) ?_
  · (go_wp2; exact ⟨rfl, Below.refl _ _⟩)
  · (go_wp2; exact ⟨rfl, Below.refl _ _⟩)
  simp only [act_norm]
  refine wpAnyE_take 3 rfl (by kernel_rfl) (by kernel_rfl) (by kernel_rfl) (fun _ _ _ h => h) hst (EffB.pure rfl (fun _ => rfl)) (.inr (EffB.pure rfl (fun _ => rfl))) ?_
  simp only [act_norm]
  refine wpAnyE_take 4 rfl (by kernel_rfl) (by kernel_rfl) (by kernel_rfl) (fun _ _ _ h => h) hst (EffB.pure rfl (fun _ => rfl)) (.inr (EffB.pure rfl (fun _ => rfl))) ?_
  simp only [act_norm]
  refine wpAnyE_take 5 (v := .slice (some ⟨g, 0, none⟩) 0 0) rfl (by kernel_rfl) (by kernel_rfl) (by kernel_rfl) (fun _ _ _ h => h) hst (EffB.run rfl rfl (fun wd hS => ?_)) (.inr (EffB.run rfl rfl (fun wd hS => ?_))) ?_
  · (go_wp2; exact ⟨rfl, Below.refl _ _⟩)
  · (go_wp2; exact ⟨rfl, Below.refl _ _⟩)
  simp only [act_norm]
  refine wpAnyE_one 6 rfl (by kernel_rfl) rfl (fun wd hS => ?_)
  refine wp_append_eq _ _ 37 37 rfl _ _ rfl rfl (HAP.out wd hS.1 _ _) ?_
  have hO2 := HO2.out wd hS.1
  have hT2 := hS.2.trans (turned_setCells wd g (xs.drop (j * 2)) 0 (fun k => k = g) rfl) (fun _ _ h => h)
  have hst2 := stab_and (stab_owns (B := B) (sz := 2) (v := .slice (some ⟨g, 0, none⟩) j j) (n := j) (xs := xs.drop (j * 2) ++ xs.drop (0))) (stab_turned (S := fun k => k = g) (w := w))
  refine ⟨_, ⟨hO2, hT2⟩, hst2, .inl (by decide), ?_⟩
  clear hS hO2 hT2 hst
  try simp only [act_norm]
  have hst := hst2
  refine wpAnyE_take 7 rfl (by kernel_rfl) (by kernel_rfl) (by kernel_rfl) (fun _ _ _ h => h) hst (EffB.pure rfl (fun _ => rfl)) (.inr (EffB.pure rfl (fun _ => rfl))) ?_
  simp only [act_norm]
  refine wpAnyE_done (by kernel_rfl) (fun wd hS => ?_) _
  have HC := Lib.hid (HCL.out wd hS.1)
  have HO := Lib.hid (HO3.out wd hS.1)
  have HT := Lib.hid (hS.2.trans (turned_setCells wd g zs (0) (fun k => k = g) rfl) (fun _ _ h => h))
  obtain ⟨W, hW⟩ : ∃ W, W = wd.setCells g (0) zs := ⟨_, rfl⟩
  rw [← hW] at HC HO HT
  clear hS hW hst2
  go_wp2_with (simp only [HC.out])
  go_ret
  exact ⟨rfl, HO.out, HT.out⟩
end Go.Proofs.Ytapgcbjlgekpeaa
