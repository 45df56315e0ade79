/- Layer 17: of a nil node. -/
import Derived.Test.YtapgcbjlgekpeaaJLaws17d
namespace Go.Proofs.Ytapgcbjlgekpeaa
open Go.ChangeShapes Go.WideShapes Go.ChangeAt Go.RowKit

def Nac.ncode (a : Nac) : Int := if a.k = 0 then (if Ser.code a.s = 0 then 5 else Ser.code a.s) else if a.k = 2 then (if a.p.ok = true then 5 else 7) else 0
theorem law17_nil (a : Nac) (w : World) : Calls Try.prog 17 #[.pointer none, .agg a.row] w fun e w' => e = .returned (.tuple #[.pointer none, .int .i64 a.ncode, .int .i64 0]) ∧ Below w.heap.size w w' := by
  obtain ⟨k, s, p, a⟩ := a
  rcases Nac.cases ⟨k, s, p, a⟩ with hk | hk | hk | hk | hk
  · simp only at hk
    subst hk
    by_cases hc : Ser.code s = 0
    · rw [show Nac.ncode ⟨0, s, p, a⟩ = 5 by simp [Nac.ncode, hc]]
      exact law17_nil_0 s p a hc
    · rw [show Nac.ncode ⟨0, s, p, a⟩ = Ser.code s by simp [Nac.ncode, hc]]
      exact law17_nil_0bad s p a hc
  · simp only at hk
    subst hk
    rw [show Nac.ncode ⟨1, s, p, a⟩ = 0 by simp [Nac.ncode]]
    exact law17_nil_1 s p a
  · simp only at hk
    subst hk
    by_cases hc : p.ok = true
    · rw [show Nac.ncode ⟨2, s, p, a⟩ = 5 by simp [Nac.ncode, hc]]
      exact law17_nil_2 s p a hc
    · rw [show Nac.ncode ⟨2, s, p, a⟩ = 7 by simp [Nac.ncode, hc]]
      exact law17_nil_2bad s p a (by simpa using hc)
  · simp only at hk
    subst hk
    rw [show Nac.ncode ⟨3, s, p, a⟩ = 0 by simp [Nac.ncode]]
    exact law17_nil_3 s p a
  · simp only at hk
    obtain ⟨h5, h0, h1, h2, h3⟩ := hk
    rw [show Nac.ncode ⟨k, s, p, a⟩ = 0 by simp [Nac.ncode, h0, h2]]
    exact law17_nil_4 s p a k (by simpa using h0) (by simpa using h1) (by simpa using h2) (by simpa using h3)

theorem samps_nil17 (w : World) : Samps w none [] := Or.inl rfl
theorem advs_nil17 (w : World) : Advs w none [] := Or.inl rfl
abbrev zeroLoad : Array Value := #[.slice none 0 0, .slice none 0 0, .int .i64 0, .int .i64 0, .int .i64 0, .int .i64 0, .int .i64 0, .int .i64 0, .bool false, .int .i64 0]
theorem LAt.zero (S : Nat → Prop) (w : World) : LAt S w none 0 none 0 NS.zero := ⟨.inl rfl, .inl rfl, fun _ => ⟨rfl, rfl⟩, fun _ h => by simp at h, fun _ h => by simp at h⟩
theorem NS.zero_ok {rs rh : Nat} (h1 : 1 ≤ rs) (h2 : rs ≤ 256) (h3 : 1 ≤ rh) (h4 : rh ≤ 64) : NS.zero.Ok rs rh := ⟨fun _ _ _ h => absurd h (Nat.not_lt_zero _), h1, h2, Nat.zero_le _, h3, h4, Nat.zero_le _⟩

set_option maxHeartbeats 2000000 in
set_option maxRecDepth 100000 in
theorem toldnil (w : World) : Calls Try.prog 20 #[.pointer none, .agg zeroLoad] w fun e w' => e = .returned (.bool true) ∧ Below w.heap.size w w' := by
  have B0 := Lib.hid (below1 w (.cells zeroLoad 40))
  have K0 : Hid ((w.alloc (.cells zeroLoad 40)).heap[w.heap.size]? = some (.cells zeroLoad 40 (0, 0))) := heap_alloc_at _ _ _ rfl
  have P := Lib.hid (node_policy_nil (w.alloc (.cells zeroLoad 40)))
  go_enter Try.func20, Try.ntmps20
  go_upto_region 1 with fail
  generalize (w.alloc (.cells zeroLoad 40)) = W0 at *
  go_wp2_with fail
  (with_reducible refine P.out.mono ?_)
  rintro e w1 ⟨rfl, hb⟩
  have B1 := Lib.hid (B0.out.trans (hb.mono B0.out.size))
  have K1 := Lib.hid ((hb.block _ (lt_of_heap K0.out)).trans K0.out)
  clear hb P K0 B0
  have Z0 : Hid ((w1.alloc (.cells #[.int .i64 0, .int .i64 0, .int .i64 0, .int .i64 0, .int .i64 0, .int .i64 0] 25)).heap[w1.heap.size]? = some (.cells #[.int .i64 0, .int .i64 0, .int .i64 0, .int .i64 0, .int .i64 0, .int .i64 0] 25 (0, 0))) := heap_alloc_at _ _ _ rfl
  go_upto_region 2 with (first | ((with_reducible refine wpList_store_rowAs rfl 25 _ _ rfl (w1.heap.size) #[.int .i64 0, .int .i64 0, .int .i64 0, .int .i64 0, .int .i64 0, .int .i64 0] ?_ ?_ 25 #[.int .i64 0, .int .i64 0, .int .i64 0, .int .i64 0, .int .i64 0, .int .i64 0] 6 ?_ (by kernel_rfl) rfl rfl (by simp [Value.oneCell']) ?_); exact rfl; exact rfl; exact Z0.out; (first | rw [row_1_0] | rw [row_2_0] | rw [row_2_1] | rw [row_3_0] | rw [row_3_1] | rw [row_3_2] | rw [row_4_0] | rw [row_4_1] | rw [row_4_2] | rw [row_4_3] | rw [row_5_0] | rw [row_5_1] | rw [row_5_2] | rw [row_5_3] | rw [row_5_4] | rw [row_6_0] | rw [row_6_1] | rw [row_6_2] | rw [row_6_3] | rw [row_6_4] | rw [row_6_5] | simp only [setRow_alloc_past, setRow_alloc_at, World.size_alloc, Nat.add_assoc, Nat.reduceAdd, Nat.lt_add_right_iff_pos, Nat.add_lt_add_iff_left, Nat.reduceLT, Nat.zero_lt_succ, Nat.lt_add_one])) | fail)
  have hbz := below1 w1 (.cells #[.int .i64 0, .int .i64 0, .int .i64 0, .int .i64 0, .int .i64 0, .int .i64 0] 25)
  have B2 := Lib.hid (B1.out.trans (hbz.mono B1.out.size))
  have K2 := Lib.hid ((hbz.block _ (lt_of_heap K1.out)).trans K1.out)
  have Q2 := Lib.hid Z0.out
  clear hbz B1 K1 Z0
  generalize hX : w1.heap.size = X at *
  generalize (w1.alloc (.cells #[.int .i64 0, .int .i64 0, .int .i64 0, .int .i64 0, .int .i64 0, .int .i64 0] 25)) = W2 at *
  clear hX
  have hst := stab_and (stab_and (stab_heap w.heap.size (.cells zeroLoad 40 (0, 0))) (stab_heap X (.cells #[.int .i64 0, .int .i64 0, .int .i64 0, .int .i64 0, .int .i64 0, .int .i64 0] 25 (0, 0)))) (stab_below (B := w.heap.size) (w0 := w) (Nat.le_refl _))
  refine wp_region_E mixed [] hst ⟨⟨K2.out, Q2.out⟩, below_drew B2.out⟩ ?_
  clear K2 Q2 B2
  refine wpAnyE_take 0 rfl (by kernel_rfl) (by kernel_rfl) (by kernel_rfl) (fun _ _ _ h => h) hst (EffB.pure rfl (fun _ => rfl)) (.inr (EffB.pure rfl (fun _ => rfl))) ?_
  simp only [act_norm]
  refine wpAnyE_take 1 (v := .slice none 0 0) rfl (by kernel_rfl) (by kernel_rfl) (by kernel_rfl) (fun _ _ _ h => h) hst (EffB.run rfl rfl (fun wd hS => ?_)) (.inl (by kernel_rfl)) ?_
  · (go_wp2_with fail; (with_reducible refine (node_samples_nil wd).mono ?_); rintro e w'' ⟨rfl, rfl⟩; exact ⟨rfl, Below.refl _ _⟩)
  simp only [act_norm]
  refine wpAnyE_take 2 (v := .pointer (some ⟨w.heap.size, 0, none⟩)) rfl (by kernel_rfl) (by kernel_rfl) (by kernel_rfl) (fun _ _ _ h => h) hst (EffB.run rfl rfl (fun wd hS => ?_)) (.inr (EffB.run rfl rfl (fun wd hS => ?_))) ?_
  · (go_wp2; exact ⟨rfl, Below.refl _ _⟩)
  · (go_wp2; exact ⟨rfl, Below.refl _ _⟩)
  simp only [act_norm]
  refine wpAnyE_take 3 (v := .slice none 0 0) rfl (by kernel_rfl) (by kernel_rfl) (by kernel_rfl) (fun _ _ _ h => h) hst (EffB.run rfl rfl (fun wd hS => ?_)) (.inl (by kernel_rfl)) ?_
  · (have c2 : wd.cell? ⟨w.heap.size, 0, none⟩ = some (.slice none 0 0) := by rw [cell_of_row _ _ _ _ _ _ hS.1.1]; rfl); go_wp2; exact ⟨rfl, Below.refl _ _⟩
  simp only [act_norm]
  refine wpAnyE_take 4 (v := .bool true) rfl (by kernel_rfl) (by kernel_rfl) (by kernel_rfl) (fun _ _ _ h => h) hst (EffB.run rfl rfl (fun wd hS => ?_)) (.inl (by kernel_rfl)) ?_
  · (go_wp2_with fail; (with_reducible refine (ref08_alike none none 0 0 0 [] rfl (by omega) wd (samps_nil17 wd) (samps_nil17 wd)).mono ?_); rintro e w'' ⟨rfl, hb⟩; exact ⟨rfl, hb⟩)
  simp only [act_norm]
  refine wpAnyE_take 5 rfl (by kernel_rfl) (by kernel_rfl) (by kernel_rfl) (fun _ _ _ h => h) hst (EffB.pure rfl (fun _ => rfl)) (.inr (EffB.pure rfl (fun _ => rfl))) ?_
  simp only [act_norm]
  refine wpAnyE_take 6 rfl (by kernel_rfl) (by kernel_rfl) (by kernel_rfl) (fun _ _ _ h => h) hst (EffB.pure rfl (fun _ => rfl)) (.inr (EffB.pure rfl (fun _ => rfl))) ?_
  simp only [act_norm]
  refine wpAnyE_take 7 (v := .slice none 0 0) rfl (by kernel_rfl) (by kernel_rfl) (by kernel_rfl) (fun _ _ _ h => h) hst (EffB.run rfl rfl (fun wd hS => ?_)) (.inl (by kernel_rfl)) ?_
  · (go_wp2_with fail; (with_reducible refine (node_past_nil wd).mono ?_); rintro e w'' ⟨rfl, rfl⟩; exact ⟨rfl, Below.refl _ _⟩)
  simp only [act_norm]
  refine wpAnyE_take 8 (v := .pointer (some ⟨w.heap.size, 1, none⟩)) rfl (by kernel_rfl) (by kernel_rfl) (by kernel_rfl) (fun _ _ _ h => h) hst (EffB.run rfl rfl (fun wd hS => ?_)) (.inr (EffB.run rfl rfl (fun wd hS => ?_))) ?_
  · (go_wp2; exact ⟨rfl, Below.refl _ _⟩)
  · (go_wp2; exact ⟨rfl, Below.refl _ _⟩)
  simp only [act_norm]
  refine wpAnyE_take 9 (v := .slice none 0 0) rfl (by kernel_rfl) (by kernel_rfl) (by kernel_rfl) (fun _ _ _ h => h) hst (EffB.run rfl rfl (fun wd hS => ?_)) (.inl (by kernel_rfl)) ?_
  · (have c2 : wd.cell? ⟨w.heap.size, 1, none⟩ = some (.slice none 0 0) := by rw [cell_of_row _ _ _ _ _ _ hS.1.1]; rfl); go_wp2; exact ⟨rfl, Below.refl _ _⟩
  simp only [act_norm]
  refine wpAnyE_take 10 (v := .bool true) rfl (by kernel_rfl) (by kernel_rfl) (by kernel_rfl) (fun _ _ _ h => h) hst (EffB.run rfl rfl (fun wd hS => ?_)) (.inl (by kernel_rfl)) ?_
  · (go_wp2_with fail; (with_reducible refine (ref14_same none none 0 0 0 [] rfl (by omega) wd (advs_nil17 wd) (advs_nil17 wd)).mono ?_); rintro e w'' ⟨rfl, hb⟩; exact ⟨rfl, hb⟩)
  simp only [act_norm]
  refine wpAnyE_take 11 (v := .bool true) rfl (by kernel_rfl) (by kernel_rfl) (by kernel_rfl) (fun _ _ _ h => h) hst (EffB.run rfl rfl (fun wd hS => ?_)) (.inr (EffB.run rfl rfl (fun wd hS => ?_))) ?_
  · (go_wp2; exact ⟨rfl, Below.refl _ _⟩)
  · (go_wp2; exact ⟨rfl, Below.refl _ _⟩)
  simp only [act_norm]
  refine wpAnyE_take 12 rfl (by kernel_rfl) (by kernel_rfl) (by kernel_rfl) (fun _ _ _ h => h) hst (EffB.pure rfl (fun _ => rfl)) (.inr (EffB.pure rfl (fun _ => rfl))) ?_
  simp only [act_norm]
  refine wpAnyE_take 13 (v := .agg #[.int .i64 0, .int .i64 0, .int .i64 0, .int .i64 0, .int .i64 0, .int .i64 0]) rfl (by kernel_rfl) (by kernel_rfl) (by kernel_rfl) (fun _ _ _ h => h) hst (EffB.run rfl rfl (fun wd hS => ?_)) (.inl (by kernel_rfl)) ?_
  · exact wp_load_row 25 _ rfl (X) rfl 25 #[.int .i64 0, .int .i64 0, .int .i64 0, .int .i64 0, .int .i64 0, .int .i64 0] (0, 0) _ (hS.1.2) Try.underlying25 rfl (by kernel_rfl) ⟨rfl, Below.refl _ _⟩
  simp only [act_norm]
  refine wpAnyE_take 14 (v := .pointer (some ⟨w.heap.size, 2, none⟩)) rfl (by kernel_rfl) (by kernel_rfl) (by kernel_rfl) (fun _ _ _ h => h) hst (EffB.run rfl rfl (fun wd hS => ?_)) (.inr (EffB.run rfl rfl (fun wd hS => ?_))) ?_
  · (go_wp2; exact ⟨rfl, Below.refl _ _⟩)
  · (go_wp2; exact ⟨rfl, Below.refl _ _⟩)
  simp only [act_norm]
  refine wpAnyE_take 15 (v := .agg #[.int .i64 0, .int .i64 0, .int .i64 0, .int .i64 0, .int .i64 0, .int .i64 0]) rfl (by kernel_rfl) (by kernel_rfl) (by kernel_rfl) (fun _ _ _ h => h) hst (EffB.run rfl rfl (fun wd hS => ?_)) (.inl (by kernel_rfl)) ?_
  · (have k2 : wd.cell? ⟨w.heap.size, 2, none⟩ = some (.int .i64 0) := (by rw [cell_of_row _ _ _ _ _ _ hS.1.1]; rfl); have k3 : wd.cell? ⟨w.heap.size, 3, none⟩ = some (.int .i64 0) := (by rw [cell_of_row _ _ _ _ _ _ hS.1.1]; rfl); have k4 : wd.cell? ⟨w.heap.size, 4, none⟩ = some (.int .i64 0) := (by rw [cell_of_row _ _ _ _ _ _ hS.1.1]; rfl); have k5 : wd.cell? ⟨w.heap.size, 5, none⟩ = some (.int .i64 0) := (by rw [cell_of_row _ _ _ _ _ _ hS.1.1]; rfl); have k6 : wd.cell? ⟨w.heap.size, 6, none⟩ = some (.int .i64 0) := (by rw [cell_of_row _ _ _ _ _ _ hS.1.1]; rfl); have k7 : wd.cell? ⟨w.heap.size, 7, none⟩ = some (.int .i64 0) := (by rw [cell_of_row _ _ _ _ _ _ hS.1.1]; rfl); go_wp2; exact ⟨rfl, Below.refl _ _⟩)
  simp only [act_norm]
  refine wpAnyE_take 16 (v := .bool true) rfl (by kernel_rfl) (by kernel_rfl) (by kernel_rfl) (fun _ _ _ h => h) hst (EffB.run rfl rfl (fun wd hS => ?_)) (.inl (by kernel_rfl)) ?_
  · exact wp_eql_agg _ _ _ _ rfl _ _ rfl rfl true (by kernel_rfl) (pol17_yes ⟨0, 0, 0, 0, 0, 0⟩ _) ⟨rfl, Below.refl _ _⟩
  simp only [act_norm]
  refine wpAnyE_take 17 (v := .bool true) rfl (by kernel_rfl) (by kernel_rfl) (by kernel_rfl) (fun _ _ _ h => h) hst (EffB.run rfl rfl (fun wd hS => ?_)) (.inr (EffB.run rfl rfl (fun wd hS => ?_))) ?_
  · (go_wp2; exact ⟨rfl, Below.refl _ _⟩)
  · (go_wp2; exact ⟨rfl, Below.refl _ _⟩)
  simp only [act_norm]
  refine wpAnyE_take 18 rfl (by kernel_rfl) (by kernel_rfl) (by kernel_rfl) (fun _ _ _ h => h) hst (EffB.pure rfl (fun _ => rfl)) (.inr (EffB.pure rfl (fun _ => rfl))) ?_
  simp only [act_norm]
  refine wpAnyE_take 19 rfl (by kernel_rfl) (by kernel_rfl) (by kernel_rfl) (fun _ _ _ h => h) hst (EffB.pure rfl (fun _ => rfl)) (.inr (EffB.pure rfl (fun _ => rfl))) ?_
  simp only [act_norm]
  refine wpAnyE_take 20 (v := .pointer (some ⟨w.heap.size, 8, none⟩)) rfl (by kernel_rfl) (by kernel_rfl) (by kernel_rfl) (fun _ _ _ h => h) hst (EffB.run rfl rfl (fun wd hS => ?_)) (.inr (EffB.run rfl rfl (fun wd hS => ?_))) ?_
  · (go_wp2; exact ⟨rfl, Below.refl _ _⟩)
  · (go_wp2; exact ⟨rfl, Below.refl _ _⟩)
  simp only [act_norm]
  refine wpAnyE_take 21 (v := .bool false) rfl (by kernel_rfl) (by kernel_rfl) (by kernel_rfl) (fun _ _ _ h => h) hst (EffB.run rfl rfl (fun wd hS => ?_)) (.inl (by kernel_rfl)) ?_
  · (have c2 : wd.cell? ⟨w.heap.size, 8, none⟩ = some (.bool false) := by rw [cell_of_row _ _ _ _ _ _ hS.1.1]; rfl); go_wp2; exact ⟨rfl, Below.refl _ _⟩
  simp only [act_norm]
  refine wpAnyE_take 22 (v := .bool true) rfl (by kernel_rfl) (by kernel_rfl) (by kernel_rfl) (fun _ _ _ h => h) hst (EffB.run rfl rfl (fun wd hS => ?_)) (.inr (EffB.run rfl rfl (fun wd hS => ?_))) ?_
  · (go_wp2; exact ⟨rfl, Below.refl _ _⟩)
  · (go_wp2; exact ⟨rfl, Below.refl _ _⟩)
  simp only [act_norm]
  refine wpAnyE_take 23 (v := .bool true) rfl (by kernel_rfl) (by kernel_rfl) (by kernel_rfl) (fun _ _ _ h => h) hst (EffB.run rfl rfl (fun wd hS => ?_)) (.inr (EffB.run rfl rfl (fun wd hS => ?_))) ?_
  · (go_wp2; exact ⟨rfl, Below.refl _ _⟩)
  · (go_wp2; exact ⟨rfl, Below.refl _ _⟩)
  simp only [act_norm]
  refine wpAnyE_take 24 rfl (by kernel_rfl) (by kernel_rfl) (by kernel_rfl) (fun _ _ _ h => h) hst (EffB.pure rfl (fun _ => rfl)) (.inr (EffB.pure rfl (fun _ => rfl))) ?_
  simp only [act_norm]
  refine wpAnyE_take 25 rfl (by kernel_rfl) (by kernel_rfl) (by kernel_rfl) (fun _ _ _ h => h) hst (EffB.pure rfl (fun _ => rfl)) (.inr (EffB.pure rfl (fun _ => rfl))) ?_
  simp only [act_norm]
  refine wpAnyE_take 26 (v := .int .i64 0) rfl (by kernel_rfl) (by kernel_rfl) (by kernel_rfl) (fun _ _ _ h => h) hst (EffB.run rfl rfl (fun wd hS => ?_)) (.inl (by kernel_rfl)) ?_
  · (go_wp2_with fail; (with_reducible refine (node_version_nil wd).mono ?_); rintro e w'' ⟨rfl, rfl⟩; exact ⟨rfl, Below.refl _ _⟩)
  simp only [act_norm]
  refine wpAnyE_take 27 (v := .pointer (some ⟨w.heap.size, 9, none⟩)) rfl (by kernel_rfl) (by kernel_rfl) (by kernel_rfl) (fun _ _ _ h => h) hst (EffB.run rfl rfl (fun wd hS => ?_)) (.inr (EffB.run rfl rfl (fun wd hS => ?_))) ?_
  · (go_wp2; exact ⟨rfl, Below.refl _ _⟩)
  · (go_wp2; exact ⟨rfl, Below.refl _ _⟩)
  simp only [act_norm]
  refine wpAnyE_take 28 (v := .int .i64 0) rfl (by kernel_rfl) (by kernel_rfl) (by kernel_rfl) (fun _ _ _ h => h) hst (EffB.run rfl rfl (fun wd hS => ?_)) (.inl (by kernel_rfl)) ?_
  · (have c2 : wd.cell? ⟨w.heap.size, 9, none⟩ = some (.int .i64 0) := by rw [cell_of_row _ _ _ _ _ _ hS.1.1]; rfl); go_wp2; exact ⟨rfl, Below.refl _ _⟩
  simp only [act_norm]
  refine wpAnyE_take 29 (v := .bool true) rfl (by kernel_rfl) (by kernel_rfl) (by kernel_rfl) (fun _ _ _ h => h) hst (EffB.run rfl rfl (fun wd hS => ?_)) (.inr (EffB.run rfl rfl (fun wd hS => ?_))) ?_
  · (go_wp2; exact ⟨rfl, Below.refl _ _⟩)
  · (go_wp2; exact ⟨rfl, Below.refl _ _⟩)
  simp only [act_norm]
  refine wpAnyE_take 30 (v := .bool true) rfl (by kernel_rfl) (by kernel_rfl) (by kernel_rfl) (fun _ _ _ h => h) hst (EffB.run rfl rfl (fun wd hS => ?_)) (.inr (EffB.run rfl rfl (fun wd hS => ?_))) ?_
  · (go_wp2; exact ⟨rfl, Below.refl _ _⟩)
  · (go_wp2; exact ⟨rfl, Below.refl _ _⟩)
  simp only [act_norm]
  refine wpAnyE_take 31 rfl (by kernel_rfl) (by kernel_rfl) (by kernel_rfl) (fun _ _ _ h => h) hst (EffB.pure rfl (fun _ => rfl)) (.inr (EffB.pure rfl (fun _ => rfl))) ?_
  simp only [act_norm]
  refine wpAnyE_done (by kernel_rfl) (fun wd hS => ?_) _
  have HF := Lib.hid hS.2
  clear hS hst
  go_wp2
  go_ret
  exact ⟨rfl, HF.out⟩
end Go.Proofs.Ytapgcbjlgekpeaa
