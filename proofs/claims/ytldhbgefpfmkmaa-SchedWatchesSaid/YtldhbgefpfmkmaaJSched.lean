/- Layer 27: tasks as memory; their methods; what is done. -/
import Derived.Test.YtldhbgefpfmkmaaJBase
import Derived.WalkSpells
namespace Go.Proofs.Ytldhbgefpfmkmaa
open Go.ChangeShapes Go.WideShapes Go.ChangeAt Go.RowKit

/-- A toy: left, gap, phase. -/
structure Toy where
  left : Int
  gap : Int
  phase : Int
deriving Inhabited, DecidableEq
def Toy.In (t : Toy) : Prop := I64 t.left ∧ I64 t.gap ∧ I64 t.phase
def Toy.ready (t : Toy) (used : Int) : Bool := if t.left < 1 then false else if t.gap < 2 then true else !decide ((used + t.phase) % t.gap = 0)

theorem toy_over (b : Nat) (t : Toy) (c : Value) (w : World) (h : w.heap[b]? = some (.cells #[.int .i64 t.left, .int .i64 t.gap, .int .i64 t.phase, c] 162 (0, 0))) :
    Calls Try.prog 206 #[.pointer (some ⟨b, 0, none⟩)] w fun e w' => e = .returned (.bool (decide (t.left < 1))) ∧ w = w' := by
  have c0 : w.cell? ⟨b, 0, none⟩ = some (.int .i64 t.left) := by rw [cell_of_row _ _ _ _ _ _ h]; rfl
  go_enter Try.func206, Try.ntmps206
  go_wp2
  go_ret
  exact ⟨rfl, rfl⟩

theorem m_over (n b : Nat) (w : World) : (method (n + 1) 160 (.pointer (some ⟨b, 0, none⟩)) "Over").run Try.prog w = .ok (206, .pointer (some ⟨b, 0, none⟩)) w := by kernel_rfl
theorem m_ready (n b : Nat) (w : World) : (method (n + 1) 160 (.pointer (some ⟨b, 0, none⟩)) "Ready").run Try.prog w = .ok (207, .pointer (some ⟨b, 0, none⟩)) w := by kernel_rfl
theorem m_step (n b : Nat) (w : World) : (method (n + 1) 160 (.pointer (some ⟨b, 0, none⟩)) "Step").run Try.prog w = .ok (208, .pointer (some ⟨b, 0, none⟩)) w := by kernel_rfl
theorem over_nil (w : World) : Calls Try.prog 90 #[.nilIface] w fun e w' => e = .returned (.bool true) ∧ w = w' := by
  go_enter Try.func90, Try.ntmps90
  go_wp2
  go_ret
  exact ⟨rfl, rfl⟩

set_option maxRecDepth 100000 in
theorem over_toy (b : Nat) (t : Toy) (c : Value) (w : World) (h : w.heap[b]? = some (.cells #[.int .i64 t.left, .int .i64 t.gap, .int .i64 t.phase, c] 162 (0, 0))) :
    Calls Try.prog 90 #[.iface 160 (.pointer (some ⟨b, 0, none⟩))] w fun e w' => e = .returned (.bool (decide (t.left < 1))) ∧ w = w' := by
  have H := Lib.hid (toy_over b t c w h)
  have hm := fun (n : Nat) (w : World) => m_over n b w
  go_enter Try.func90, Try.ntmps90
  go_wp2_with ((with_reducible refine H.out.mono ?_); rintro e w1 ⟨rfl, rfl⟩)
  go_ret
  exact ⟨rfl, rfl⟩

set_option maxRecDepth 100000 in
theorem ref27_ready (t : Toy) (ht : t.In) (h0 : 0 ≤ t.phase) (h1 : t.phase ≤ 1000) (used : Int) (u0 : 0 ≤ used) (u1 : used ≤ 100000) (w : World) :
    Calls Try.prog 89 #[.agg #[.int .i64 t.left, .int .i64 t.gap, .int .i64 t.phase], .int .i64 used] w fun e w' => e = .returned (.bool (Toy.ready t used)) ∧ Below w.heap.size w w' := by
  have HD : Hid (Toy.ready t used = if t.left < 1 then false else if t.gap < 2 then true else !decide ((used + t.phase) % t.gap = 0)) := rfl
  obtain ⟨r, er⟩ : ∃ r, r = Toy.ready t used := ⟨_, rfl⟩
  rw [← er] at HD ⊢
  have hg1 := ht.2.1.1
  have hg2 := ht.2.1.2
  obtain ⟨lf, gp, ph⟩ := t
  simp only at *
  clear er ht
  by_cases c1 : lf < 1
  · have HE := Lib.hid (HD.out.trans (if_pos c1))
    go_enter Try.func89, Try.ntmps89
    go_wp2
    go_ret
    exact ⟨ret_bool HE.out.symm, below1 _ _⟩
  by_cases c2 : gp < 2
  · have HE := Lib.hid ((HD.out.trans (if_neg c1)).trans (if_pos c2))
    go_enter Try.func89, Try.ntmps89
    go_wp2
    go_ret
    exact ⟨ret_bool HE.out.symm, below1 _ _⟩
  · have hE := (HD.out.trans (if_neg c1)).trans (if_neg c2)
    have m0 := Int.emod_nonneg (used + ph) (b := gp) (by omega)
    have m1 := Int.emod_lt_of_pos (used + ph) (b := gp) (by omega)
    by_cases c3 : (used + ph) % gp = 0
    · rw [decide_eq_true c3] at hE
      have HE := Lib.hid hE
      clear hE HD
      go_enter Try.func89, Try.ntmps89
      go_wp2
      go_ret
      exact ⟨ret_bool HE.out.symm, below1 _ _⟩
    · rw [decide_eq_false c3] at hE
      have HE := Lib.hid hE
      have c4 : ((used + ph) % gp == 0) = false := beq_eq_false_iff_ne.2 c3
      clear hE HD
      go_enter Try.func89, Try.ntmps89
      go_wp2
      go_ret
      exact ⟨ret_bool (by rw [HE.out]; simp [c3]), below1 _ _⟩

set_option maxHeartbeats 1000000 in
set_option maxRecDepth 100000 in
theorem toy_ready (b c : Nat) (t : Toy) (ht : t.In) (h0 : 0 ≤ t.phase) (h1 : t.phase ≤ 1000) (used : Int) (u0 : 0 ≤ used) (u1 : used ≤ 100000) (w : World) (h : w.heap[b]? = some (.cells #[.int .i64 t.left, .int .i64 t.gap, .int .i64 t.phase, .pointer (some ⟨c, 0, none⟩)] 162 (0, 0))) (hc : w.heap[c]? = some (.cells #[.int .i64 used] 159 (0, 0))) :
    Calls Try.prog 207 #[.pointer (some ⟨b, 0, none⟩)] w fun e w' => e = .returned (.bool (Toy.ready t used)) ∧ Below w.heap.size w w' := by
  have P := ref27_ready t ht h0 h1 used u0 u1
  obtain ⟨r, er⟩ : ∃ r, r = Toy.ready t used := ⟨_, rfl⟩
  rw [← er] at P ⊢
  obtain ⟨lf, gp, ph⟩ := t
  simp only at *
  have P := Lib.hid P
  have H := Lib.hid (And.intro h hc)
  clear er ht h0 h1 u0 u1 h hc
  have hst := stab_and (stab_below (B := w.heap.size) (w0 := w) (Nat.le_refl _)) (stab_and (stab_heap b (.cells #[.int .i64 lf, .int .i64 gp, .int .i64 ph, .pointer (some ⟨c, 0, none⟩)] 162 (0, 0))) (stab_heap c (.cells #[.int .i64 used] 159 (0, 0))))
  go_enter Try.func207, Try.ntmps207
  go_wp2_with fail
  refine wp_region_E mixed [] hst ⟨below_drew (Below.refl _ _), H.out.1, H.out.2⟩ ?_
  refine wpAnyE_take 0 rfl (by kernel_rfl) (by kernel_rfl) (by kernel_rfl) (fun _ _ _ h => h) hst (EffB.pure rfl (fun _ => rfl)) (.inr (EffB.pure rfl (fun _ => rfl))) ?_
  simp only [act_norm]
  refine wpAnyE_take 1 (v := .pointer (some ⟨b, 0, none⟩)) rfl (by kernel_rfl) (by kernel_rfl) (by kernel_rfl) (fun _ _ _ h => h) hst (EffB.run rfl rfl (fun wd hS => ?_)) (.inr (EffB.run rfl rfl (fun wd hS => ?_))) ?_
  · (go_wp2; exact ⟨rfl, Below.refl _ _⟩)
  · (go_wp2; exact ⟨rfl, Below.refl _ _⟩)
  simp only [act_norm]
  refine wpAnyE_take 2 (v := .pointer (some ⟨b, 0, none⟩)) rfl (by kernel_rfl) (by kernel_rfl) (by kernel_rfl) (fun _ _ _ h => h) hst (EffB.run rfl rfl (fun wd hS => ?_)) (.inr (EffB.run rfl rfl (fun wd hS => ?_))) ?_
  · (go_wp2; exact ⟨rfl, Below.refl _ _⟩)
  · (go_wp2; exact ⟨rfl, Below.refl _ _⟩)
  simp only [act_norm]
  refine wpAnyE_take 3 (v := .agg #[.int .i64 lf, .int .i64 gp, .int .i64 ph]) rfl (by kernel_rfl) (by kernel_rfl) (by kernel_rfl) (fun _ _ _ h => h) hst (EffB.run rfl rfl (fun wd hS => ?_)) (.inl (by kernel_rfl)) ?_
  · (have a0 : wd.cell? ⟨b, 0, none⟩ = some (.int .i64 lf) := by rw [cell_of_row _ _ _ _ _ _ hS.2.1]; rfl); (have a1 : wd.cell? ⟨b, 1, none⟩ = some (.int .i64 gp) := by rw [cell_of_row _ _ _ _ _ _ hS.2.1]; rfl); (have a2 : wd.cell? ⟨b, 2, none⟩ = some (.int .i64 ph) := by rw [cell_of_row _ _ _ _ _ _ hS.2.1]; rfl); go_wp2; exact ⟨rfl, Below.refl _ _⟩
  simp only [act_norm]
  refine wpAnyE_take 4 rfl (by kernel_rfl) (by kernel_rfl) (by kernel_rfl) (fun _ _ _ h => h) hst (EffB.pure rfl (fun _ => rfl)) (.inr (EffB.pure rfl (fun _ => rfl))) ?_
  simp only [act_norm]
  refine wpAnyE_take 5 (v := .pointer (some ⟨b, 0, none⟩)) rfl (by kernel_rfl) (by kernel_rfl) (by kernel_rfl) (fun _ _ _ h => h) hst (EffB.run rfl rfl (fun wd hS => ?_)) (.inr (EffB.run rfl rfl (fun wd hS => ?_))) ?_
  · (go_wp2; exact ⟨rfl, Below.refl _ _⟩)
  · (go_wp2; exact ⟨rfl, Below.refl _ _⟩)
  simp only [act_norm]
  refine wpAnyE_take 6 (v := .pointer (some ⟨b, 3, none⟩)) rfl (by kernel_rfl) (by kernel_rfl) (by kernel_rfl) (fun _ _ _ h => h) hst (EffB.run rfl rfl (fun wd hS => ?_)) (.inr (EffB.run rfl rfl (fun wd hS => ?_))) ?_
  · (go_wp2; exact ⟨rfl, Below.refl _ _⟩)
  · (go_wp2; exact ⟨rfl, Below.refl _ _⟩)
  simp only [act_norm]
  refine wpAnyE_take 7 (v := .pointer (some ⟨c, 0, none⟩)) rfl (by kernel_rfl) (by kernel_rfl) (by kernel_rfl) (fun _ _ _ h => h) hst (EffB.run rfl rfl (fun wd hS => ?_)) (.inl (by kernel_rfl)) ?_
  · (have c2 : wd.cell? ⟨b, 3, none⟩ = some (.pointer (some ⟨c, 0, none⟩)) := by rw [cell_of_row _ _ _ _ _ _ (hS.2.1)]; rfl); go_wp2; exact ⟨rfl, Below.refl _ _⟩
  simp only [act_norm]
  refine wpAnyE_take 8 (v := .pointer (some ⟨c, 0, none⟩)) rfl (by kernel_rfl) (by kernel_rfl) (by kernel_rfl) (fun _ _ _ h => h) hst (EffB.run rfl rfl (fun wd hS => ?_)) (.inr (EffB.run rfl rfl (fun wd hS => ?_))) ?_
  · (go_wp2; exact ⟨rfl, Below.refl _ _⟩)
  · (go_wp2; exact ⟨rfl, Below.refl _ _⟩)
  simp only [act_norm]
  refine wpAnyE_take 9 (v := .pointer (some ⟨c, 0, none⟩)) rfl (by kernel_rfl) (by kernel_rfl) (by kernel_rfl) (fun _ _ _ h => h) hst (EffB.run rfl rfl (fun wd hS => ?_)) (.inr (EffB.run rfl rfl (fun wd hS => ?_))) ?_
  · (go_wp2; exact ⟨rfl, Below.refl _ _⟩)
  · (go_wp2; exact ⟨rfl, Below.refl _ _⟩)
  simp only [act_norm]
  refine wpAnyE_take 10 (v := .int .i64 used) rfl (by kernel_rfl) (by kernel_rfl) (by kernel_rfl) (fun _ _ _ h => h) hst (EffB.run rfl rfl (fun wd hS => ?_)) (.inl (by kernel_rfl)) ?_
  · (have c2 : wd.cell? ⟨c, 0, none⟩ = some (.int .i64 used) := by rw [cell_of_row _ _ _ _ _ _ (hS.2.2)]; rfl); go_wp2; exact ⟨rfl, Below.refl _ _⟩
  simp only [act_norm]
  refine wpAnyE_take 11 (v := .bool r) rfl (by kernel_rfl) (by kernel_rfl) (by kernel_rfl) (fun _ _ _ h => h) hst (EffB.run rfl rfl (fun wd hS => ?_)) (.inl (by kernel_rfl)) ?_
  · (go_wp2_with fail; (with_reducible refine (P.out wd).mono ?_); rintro e w'' ⟨rfl, hb⟩; exact ⟨rfl, hb⟩)
  simp only [act_norm]
  refine wpAnyE_take 12 rfl (by kernel_rfl) (by kernel_rfl) (by kernel_rfl) (fun _ _ _ h => h) hst (EffB.pure rfl (fun _ => rfl)) (.inr (EffB.pure rfl (fun _ => rfl))) ?_
  simp only [act_norm]
  refine wpAnyE_done (by kernel_rfl) (fun wd hS => ?_) _
  have HB := Lib.hid hS.1
  clear hS hst
  go_wp2
  go_ret
  exact ⟨rfl, HB.out⟩

set_option maxRecDepth 100000 in
theorem toy_step (b c : Nat) (t : Toy) (ht : t.In) (h0 : 1 ≤ t.left) (used : Int) (u0 : 0 ≤ used) (u1 : used ≤ 100000) (w : World) (hbc : b ≠ c) (h : w.heap[b]? = some (.cells #[.int .i64 t.left, .int .i64 t.gap, .int .i64 t.phase, .pointer (some ⟨c, 0, none⟩)] 162 (0, 0))) (hc : w.heap[c]? = some (.cells #[.int .i64 used] 159 (0, 0))) :
    Calls Try.prog 208 #[.pointer (some ⟨b, 0, none⟩)] w fun e w' => (∃ v, e = .returned v) ∧ w' = (w.setCell ⟨b, 0, none⟩ (.int .i64 (t.left - 1))).setCell ⟨c, 0, none⟩ (.int .i64 (used + 1)) := by
  obtain ⟨lf, gp, ph⟩ := t
  have hl1 := ht.1.1
  have hl2 := ht.1.2
  simp only at *
  have c0 : w.cell? ⟨b, 0, none⟩ = some (.int .i64 lf) := by rw [cell_of_row _ _ _ _ _ _ h]; rfl
  have f0 : w.frozen? ⟨b, 0, none⟩ = false := frozen_of_row _ _ _ _ _ h
  have h2 : (w.setCell ⟨b, 0, none⟩ (.int .i64 (lf - 1))).heap[b]? = some (.cells #[.int .i64 (lf - 1), .int .i64 gp, .int .i64 ph, .pointer (some ⟨c, 0, none⟩)] 162 (0, 0)) := by rw [heap_setCell_same _ _ _ _ _ _ h]; rfl
  have h3 : (w.setCell ⟨b, 0, none⟩ (.int .i64 (lf - 1))).heap[c]? = some (.cells #[.int .i64 used] 159 (0, 0)) := (Below.heap_setCell _ _ _ _ (fun e => hbc e.symm)).trans hc
  have c3 : (w.setCell ⟨b, 0, none⟩ (.int .i64 (lf - 1))).cell? ⟨b, 3, none⟩ = some (.pointer (some ⟨c, 0, none⟩)) := by rw [cell_of_row _ _ _ _ _ _ h2]; rfl
  have d0 : (w.setCell ⟨b, 0, none⟩ (.int .i64 (lf - 1))).cell? ⟨c, 0, none⟩ = some (.int .i64 used) := by rw [cell_of_row _ _ _ _ _ _ h3]; rfl
  have g0 : (w.setCell ⟨b, 0, none⟩ (.int .i64 (lf - 1))).frozen? ⟨c, 0, none⟩ = false := frozen_of_row _ _ _ _ _ h3
  clear h h2 h3 hc ht
  go_enter Try.func208, Try.ntmps208
  go_wp2
  exact bodyPost_end (results_none rfl _ _ _) rfl ⟨⟨_, rfl⟩, rfl⟩
end Go.Proofs.Ytldhbgefpfmkmaa
