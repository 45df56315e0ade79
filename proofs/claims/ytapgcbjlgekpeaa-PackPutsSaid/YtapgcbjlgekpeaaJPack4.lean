/- Layer 11: the samples that numbers come to. -/
import Derived.Test.YtapgcbjlgekpeaaJPack
import Derived.Test.YtapgcbjlgekpeaaJKit
import Derived.Test.YtapgcbjlgekpeaaJBase
import Derived.Deep.CutRange
namespace Go.Proofs.Ytapgcbjlgekpeaa
open Go.ChangeShapes Go.WideShapes Go.ChangeAt Go.RowKit

theorem Pk.un_next (m : List Int) (k : Nat) : Pk.un m (k + 1) = Pk.un m k ++ [Pk.at (Pk.un m (k + 1)) k] := by
  rw [Pk.un_last]
  rfl

set_option maxHeartbeats 2000000 in
set_option maxRecDepth 100000 in
theorem pack_samples (p : Option Addr) (cap : Nat) (m : List Int) (hm : ∀ n ∈ m, I64 n) (hb : m.length ≤ 100000) (w : World) (hs : Ints .i64 w p m) :
    Calls Try.prog 100 #[.slice p m.length cap] w (RetOwn w 2 (Pk.pairs m) (sampVals (Pk.un m (Pk.pairs m)))) := by
  have HS := Lib.hid hs
  have HM := Lib.hid hm
  have HP : Hid (Pk.pairs m = (m.length - 1) / 2) := rfl
  have HAH := Lib.hid pack_ahead
  obtain ⟨r, er⟩ : ∃ r, r = Pk.pairs m := ⟨_, rfl⟩
  rw [← er] at HP ⊢
  obtain ⟨n, en⟩ : ∃ n, n = m.length := ⟨_, rfl⟩
  have EN := Lib.hid en
  rw [← en] at hb HP ⊢
  clear hs hm er en
  go_enter Try.func100, Try.ntmps100
  go_wp2_with fail
  (with_reducible refine (HAH.out _).mono ?_)
  rintro e w1 ⟨rfl, hb1⟩
  have M1 := Lib.hid (((Mem.start w).call hb1).alloc (.cells #[.int .i64 (-1), .int .i64 0] 23))
  clear hb1
  obtain ⟨X, hX⟩ : ∃ X, X = w1.heap.size := ⟨_, rfl⟩
  rw [← hX] at M1
  go_wp2
  rw [← hX]
  clear hX
  go_loopw [3, 5] (fun v i wr => ∃ k : Nat, k ≤ r ∧ i = .int .i64 ((2 * k + 1 : Nat) : Int) ∧ Owns wr w.heap.size 2 v k (sampVals (Pk.un m k)) ∧ v.ownBlock ≠ some X ∧ Mem w wr [(X, .cells #[.int .i64 (Pk.pt (Pk.un m k) k), .int .i64 (Pk.pv (Pk.un m k) k)] 23)]) (fun _ i _ => n - (intOf i).toNat)
  case atStart => exact ⟨0, by omega, rfl, owns_nil _ _ _, by simp [Value.ownBlock], M1.out⟩
  case round =>
    obtain ⟨k, hk, rfl, hO, hap, hM⟩ := hrel
    have hr := HP.out
    by_cases hlt : k < r
    · obtain ⟨b, off, rfl, hbw, hc⟩ := HS.out.pos (by have := EN.out; omega)
      have hcx1 := hc (2 * k + 1) (by have := EN.out; omega)
      have hcx2 := hc (2 * k + 1 + 1) (by have := EN.out; omega)
      have hx1 := HM.out (m[2 * k + 1]?.getD 0) (by rw [List.getElem?_eq_getElem (by have := EN.out; omega)]; exact List.getElem_mem _)
      have hx2 := HM.out (m[2 * k + 1 + 1]?.getD 0) (by rw [List.getElem?_eq_getElem (by have := EN.out; omega)]; exact List.getElem_mem _)
      have hun := Pk.un_next m k
      have hla := Pk.un_last m k
      have hah := Pk.un_ahead m k
      have hnp := Pk.un_pt m k
      rw [show 2 * k + 2 = 2 * k + 1 + 1 from rfl] at hla
      obtain ⟨x1, ex1⟩ : ∃ x, x = m[2 * k + 1]?.getD 0 := ⟨_, rfl⟩
      obtain ⟨x2, ex2⟩ : ∃ x, x = m[2 * k + 1 + 1]?.getD 0 := ⟨_, rfl⟩
      rw [← ex1] at hcx1 hx1 hla
      rw [← ex2] at hcx2 hx2 hla
      obtain ⟨L2, eL2⟩ : ∃ L, L = Pk.un m (k + 1) := ⟨_, rfl⟩
      rw [← eL2] at hun hla hnp
      rw [hla] at hun hnp
      obtain ⟨L, eL⟩ : ∃ L, L = Pk.un m k := ⟨_, rfl⟩
      rw [← eL] at hun hah hO hM hnp
      obtain ⟨pt, ept⟩ : ∃ x, x = Pk.pt L k := ⟨_, rfl⟩
      obtain ⟨pv, epv⟩ : ∃ x, x = Pk.pv L k := ⟨_, rfl⟩
      rw [← ept, ← epv] at hun hah hM hnp
      simp only at hnp
      have hs1 := Sat.clamp_I64 (pt + 1)
      have P1 := Lib.hid (sat_add pt 1 hah.1 (by unfold I64; omega))
      obtain ⟨s1, es1⟩ : ∃ s, s = Sat.clamp (pt + 1) := ⟨_, rfl⟩
      rw [← es1] at P1 hs1 hun hnp
      have P2 := Lib.hid (sat_add s1 x1 hs1 hx1)
      have P3 := Lib.hid (sat_add pv x2 hah.2 hx2)
      obtain ⟨t2, et2⟩ : ∃ s, s = Sat.clamp (s1 + x1) := ⟨_, rfl⟩
      obtain ⟨v2, ev2⟩ : ∃ s, s = Sat.clamp (pv + x2) := ⟨_, rfl⟩
      rw [← et2] at P2 hun hnp
      rw [← ev2] at P3 hun hnp
      obtain ⟨I, eI⟩ : ∃ I, I = 2 * k + 1 := ⟨_, rfl⟩
      rw [← eI] at hcx1 hcx2 ⊢
      have CX : Hid (∀ W : World, Below w.heap.size w W → W.cell? ⟨b, off + I, none⟩ = some (.int .i64 x1) ∧ W.cell? ⟨b, off + (I + 1), none⟩ = some (.int .i64 x2)) := fun W hW => ⟨(hW.cell (p := ⟨b, off + I, none⟩) hbw).trans hcx1, (hW.cell (p := ⟨b, off + (I + 1), none⟩) hbw).trans hcx2⟩
      have i0 : (0 : Int) ≤ (I : Int) := by omega
      have i1 : (I : Int) < n := by omega
      have i2 : (I : Int) + 1 < n := by omega
      have HUN := Lib.hid hun
      have HNP := Lib.hid hnp
      have AX := Lib.hid hap
      have MX := Lib.hid hM
      have OX := Lib.hid hO
      have EI := Lib.hid eI
      have ER := Lib.hid eL2
      have HKR := Lib.hid (show k + 1 ≤ r by omega)
      have HKL := Lib.hid (show k ≤ 50000 by omega)
      have hst := stab_and (stab_mem (w := w) (bs := [(X, .cells #[.int .i64 pt, .int .i64 pv] 23)])) (stab_owns (B := w.heap.size) (sz := 2) (v := u3) (n := k) (xs := sampVals L))
      clear hcx1 hcx2 hx1 hx2 hun hla hah hnp hO hap hM ex1 ex2 eL2 eL ept epv es1 et2 ev2 eI hc hbw hr hs1 hlt hk M1
      go_wp2_with fail
      refine wp_region_E mixed [17] hst ⟨MX.out.drewN 1, OX.out.same (Nat.le_refl _) (fun _ _ => rfl)⟩ ?_
      refine wpAnyE_take 0 (v := .pointer (some ⟨X, 0, none⟩)) rfl (by kernel_rfl) (by kernel_rfl) (by kernel_rfl) (fun _ _ _ h => h) hst (EffB.run rfl rfl (fun wd hS => ?_)) (.inr (EffB.run rfl rfl (fun wd hS => ?_))) ?_
      · (go_wp2; exact ⟨rfl, Below.refl _ _⟩)
      · (go_wp2; exact ⟨rfl, Below.refl _ _⟩)
      simp only [act_norm]
      refine wpAnyE_take 1 (v := .int .i64 pt) rfl (by kernel_rfl) (by kernel_rfl) (by kernel_rfl) (fun _ _ _ h => h) hst (EffB.run rfl rfl (fun wd hS => ?_)) (.inl (by kernel_rfl)) ?_
      · (have c2 : wd.cell? ⟨X, 0, none⟩ = some (.int .i64 pt) := by rw [cell_of_row _ _ _ _ _ _ (hS.1.heap 0 rfl)]; rfl); go_wp2; exact ⟨rfl, Below.refl _ _⟩
      simp only [act_norm]
      refine wpAnyE_take 2 (v := .int .i64 s1) rfl (by kernel_rfl) (by kernel_rfl) (by kernel_rfl) (fun _ _ _ h => h) hst (EffB.run rfl rfl (fun wd hS => ?_)) (.inl (by kernel_rfl)) ?_
      · (go_wp2_with fail; (with_reducible refine (P1.out wd).mono ?_); rintro e w'' ⟨rfl, rfl⟩; exact ⟨rfl, Below.refl _ _⟩)
      simp only [act_norm]
      refine wpAnyE_take 3 rfl (by kernel_rfl) (by kernel_rfl) (by kernel_rfl) (fun _ _ _ h => h) hst (EffB.pure rfl (fun _ => rfl)) (.inr (EffB.pure rfl (fun _ => rfl))) ?_
      simp only [act_norm]
      refine wpAnyE_take 4 rfl (by kernel_rfl) (by kernel_rfl) (by kernel_rfl) (fun _ _ _ h => h) hst (EffB.pure rfl (fun _ => rfl)) (.inr (EffB.pure rfl (fun _ => rfl))) ?_
      simp only [act_norm]
      refine wpAnyE_take 5 (v := .pointer (some ⟨b, off + I, none⟩)) rfl (by kernel_rfl) (by kernel_rfl) (by kernel_rfl) (fun _ _ _ h => h) hst (EffB.run rfl rfl (fun wd hS => ?_)) (.inr (EffB.run rfl rfl (fun wd hS => ?_))) ?_
      · (go_wp2; exact ⟨rfl, Below.refl _ _⟩)
      · (go_wp2; exact ⟨rfl, Below.refl _ _⟩)
      simp only [act_norm]
      refine wpAnyE_take 6 (v := .int .i64 x1) rfl (by kernel_rfl) (by kernel_rfl) (by kernel_rfl) (fun _ _ _ h => h) hst (EffB.run rfl rfl (fun wd hS => ?_)) (.inl (by kernel_rfl)) ?_
      · (have c2 := (CX.out wd hS.1.below).1; go_wp2; exact ⟨rfl, Below.refl _ _⟩)
      simp only [act_norm]
      refine wpAnyE_take 7 (v := .int .i64 t2) rfl (by kernel_rfl) (by kernel_rfl) (by kernel_rfl) (fun _ _ _ h => h) hst (EffB.run rfl rfl (fun wd hS => ?_)) (.inl (by kernel_rfl)) ?_
      · (go_wp2_with fail; (with_reducible refine (P2.out wd).mono ?_); rintro e w'' ⟨rfl, rfl⟩; exact ⟨rfl, Below.refl _ _⟩)
      simp only [act_norm]
      refine wpAnyE_take 8 (v := .pointer (some ⟨X, 1, none⟩)) rfl (by kernel_rfl) (by kernel_rfl) (by kernel_rfl) (fun _ _ _ h => h) hst (EffB.run rfl rfl (fun wd hS => ?_)) (.inr (EffB.run rfl rfl (fun wd hS => ?_))) ?_
      · (go_wp2; exact ⟨rfl, Below.refl _ _⟩)
      · (go_wp2; exact ⟨rfl, Below.refl _ _⟩)
      simp only [act_norm]
      refine wpAnyE_take 9 (v := .int .i64 pv) rfl (by kernel_rfl) (by kernel_rfl) (by kernel_rfl) (fun _ _ _ h => h) hst (EffB.run rfl rfl (fun wd hS => ?_)) (.inl (by kernel_rfl)) ?_
      · (have c2 : wd.cell? ⟨X, 1, none⟩ = some (.int .i64 pv) := by rw [cell_of_row _ _ _ _ _ _ (hS.1.heap 0 rfl)]; rfl); go_wp2; exact ⟨rfl, Below.refl _ _⟩
      simp only [act_norm]
      refine wpAnyE_take 10 rfl (by kernel_rfl) (by kernel_rfl) (by kernel_rfl) (fun _ _ _ h => h) hst (EffB.pure rfl (fun _ => rfl)) (.inr (EffB.pure rfl (fun _ => rfl))) ?_
      simp only [act_norm]
      refine wpAnyE_take 11 rfl (by kernel_rfl) (by kernel_rfl) (by kernel_rfl) (fun _ _ _ h => h) hst (EffB.pure rfl (fun _ => rfl)) (.inr (EffB.pure rfl (fun _ => rfl))) ?_
      simp only [act_norm]
      refine wpAnyE_take 12 (v := .int .i64 ((I : Int) + 1)) rfl (by kernel_rfl) (by kernel_rfl) (by kernel_rfl) (fun _ _ _ h => h) hst (EffB.run rfl rfl (fun wd hS => ?_)) (.inr (EffB.run rfl rfl (fun wd hS => ?_))) ?_
      · (go_wp2; exact ⟨rfl, Below.refl _ _⟩)
      · (go_wp2; exact ⟨rfl, Below.refl _ _⟩)
      simp only [act_norm]
      refine wpAnyE_take 13 (v := .pointer (some ⟨b, off + (I + 1), none⟩)) rfl (by kernel_rfl) (by kernel_rfl) (by kernel_rfl) (fun _ _ _ h => h) hst (EffB.run rfl rfl (fun wd hS => ?_)) (.inr (EffB.run rfl rfl (fun wd hS => ?_))) ?_
      · (go_wp2; exact ⟨rfl, Below.refl _ _⟩)
      · (go_wp2; exact ⟨rfl, Below.refl _ _⟩)
      simp only [act_norm]
      refine wpAnyE_take 14 (v := .int .i64 x2) rfl (by kernel_rfl) (by kernel_rfl) (by kernel_rfl) (fun _ _ _ h => h) hst (EffB.run rfl rfl (fun wd hS => ?_)) (.inl (by kernel_rfl)) ?_
      · (have c2 := (CX.out wd hS.1.below).2; go_wp2; exact ⟨rfl, Below.refl _ _⟩)
      simp only [act_norm]
      refine wpAnyE_take 15 (v := .int .i64 v2) rfl (by kernel_rfl) (by kernel_rfl) (by kernel_rfl) (fun _ _ _ h => h) hst (EffB.run rfl rfl (fun wd hS => ?_)) (.inl (by kernel_rfl)) ?_
      · (go_wp2_with fail; (with_reducible refine (P3.out wd).mono ?_); rintro e w'' ⟨rfl, rfl⟩; exact ⟨rfl, Below.refl _ _⟩)
      simp only [act_norm]
      refine wpAnyE_take 16 (v := .agg #[.int .i64 t2, .int .i64 v2]) rfl (by kernel_rfl) (by kernel_rfl) (by kernel_rfl) (fun _ _ _ h => h) hst (EffB.run rfl rfl (fun wd hS => ?_)) (.inr (EffB.run rfl rfl (fun wd hS => ?_))) ?_
      · (go_wp2; exact ⟨rfl, Below.refl _ _⟩)
      · (go_wp2; exact ⟨rfl, Below.refl _ _⟩)
      simp only [act_norm]
      refine wpAnyE_one 17 rfl (by kernel_rfl) rfl (fun wd hS => ?_)
      refine wp_store_row 23 _ _ rfl X #[.int .i64 t2, .int .i64 v2] rfl rfl 23 #[.int .i64 pt, .int .i64 pv] (hS.1.heap 0 rfl) (by kernel_rfl) rfl (by simp [Value.oneCell']) ?_
      have Y := Lib.hid (And.intro (hS.1.setRow 0 rfl (cs := #[.int .i64 t2, .int .i64 v2])) (hS.2.setRowOther #[.int .i64 t2, .int .i64 v2] AX.out))
      clear hS
      refine ⟨fun w' => Mem w w' [(X, .cells #[.int .i64 t2, .int .i64 v2] 23)] ∧ Owns w' w.heap.size 2 u3 k (sampVals L), Y.out, stab_and stab_mem stab_owns, (by first | exact .inl (by decide) | exact fun _ h => h), ?_⟩
      clear Y hst
      try simp only [act_norm]
      refine wpAnyE_done (by kernel_rfl) (fun wd hS => ?_) _
      have MY := Lib.hid hS.1
      have OY := Lib.hid hS.2
      have hBS := Lib.hid hS.1.below.size
      have K0 := Lib.hid (hS.1.heap 0 rfl)
      have hmxl : k + 1 ≤ maxLen := by have := HKL.out; unfold maxLen; omega
      have hbyt : (k + 1) * 16 ≤ 140737488355328 := by have := HKL.out; omega
      clear hS MX OX CX
      go_wp2_with (first | ((with_reducible refine wpList_load_rowAs rfl 23 _ rfl (X) ?_ 23 #[.int .i64 t2, .int .i64 v2] (0, 0) _ 2 ?_ Try.underlying23 rfl (by kernel_rfl) ?_ ?_); exact rfl; exact K0.out; exact rfl) | (at_builtin; refine wpList_append_newm rfl _ _ 37 rfl _ _ 23 rfl 1 w.heap.size 23 (.agg #[.int .i64 0, .int .i64 0]) 2 16 Try.underlying37 sampInfo rfl (by decide) _ _ _ rfl OY.out rfl rfl (by simp [Value.oneCell']) hmxl hbyt hBS.out ?_; intro u1 x1 ha1 hg1 hc1 hw1; have HA1 := Lib.hid ha1; have HG1 := Lib.hid hg1; have HW1 := Lib.hid hw1; clear ha1 hg1 hc1 hw1))
      have hap : u1.ownBlock ≠ some X := by
        rcases HW1.out with h | h
        · rw [h]; exact AX.out
        · intro e; have := h X e; have := MY.out.lt (i := 0) rfl; omega
      have M9 := MY.out.grown1 HG1.out (fun y hy => ⟨(OY.out.lt y hy).1, fun e => AX.out (e ▸ hy)⟩)
      have hl2 : Pk.un m (k + 1) = L ++ [⟨t2, v2⟩] := ER.out.symm.trans HUN.out
      have hpp : Pk.pt (Pk.un m (k + 1)) (k + 1) = t2 ∧ Pk.pv (Pk.un m (k + 1)) (k + 1) = v2 := by rw [← ER.out]; exact HNP.out
      have hei := EI.out
      refine ⟨⟨k + 1, HKR.out, int_eq (by omega), ?_, hap, by rw [hpp.1, hpp.2]; exact M9⟩, ?_⟩
      · rw [hl2, sampVals_append]
        exact HA1.out
      · simp [intOf]
        omega
    · obtain rfl : k = r := by omega
      have OX := Lib.hid hO
      have BX := Lib.hid hM.below
      have hn2 : ¬ (2 * k + 1 + 1 < n) := by omega
      obtain ⟨I, eI⟩ : ∃ I, I = 2 * k + 1 := ⟨_, rfl⟩
      rw [← eI] at hn2 ⊢
      have d9 : ¬ ((I : Int) + 1 < (n : Int)) := by omega
      have hI : I ≤ 100002 := by omega
      clear hO hap hM hr eI M1
      go_wp2
      go_ret
      exact ⟨_, rfl, OX.out, BX.out⟩
end Go.Proofs.Ytapgcbjlgekpeaa
