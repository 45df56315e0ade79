/- The law flywheellaw51.BudgetFits: whatever its arguments, the call returns true and leaves them as they are. No condition. -/
import Derived.Test.YtcanbagnehdbiaaJLaws51c
namespace Go.Proofs.Ytcanbagnehdbiaa.budgetFits
open Go.ChangeShapes Go.WideShapes Go.ChangeAt Go.RowKit

set_option maxRecDepth 100000 in
theorem law {H : Type} (enc : TypeId × Value → H) : Law enc Try.prog 7 Try.f7 := by
  intro W base args ds p hval hA hwt hnf hlt
  rw [Try.params7] at hA hval hwt
  obtain ⟨v0, vs0, d0, ds0, p0, q0, hargs, rfl, rfl, h0, r0⟩ := trodAll_cons hA
  obtain ⟨v1, vs1, d1, ds1, p1, q1, rfl, rfl, rfl, h1, r1⟩ := trodAll_cons r0
  obtain ⟨v2, vs2, d2, ds2, p2, q2, rfl, rfl, rfl, h2, r2⟩ := trodAll_cons r1
  obtain ⟨rfl, rfl, rfl⟩ := trodAll_nil r2
  obtain rfl : args = #[v0, v1, v2] := by cases args; simp_all
  obtain ⟨a0, rfl, rfl, rfl, w0⟩ := open_int Try.underlying2 (hval 0 _ v0 rfl rfl) h0
  obtain ⟨s1, c1, l1, rfl, e1, r1, m1⟩ := open_Rows (k := .i64) Try.underlying24 Try.underlying56 (by kernel_rfl) (by kernel_rfl) (by decide) (by kernel_rfl) (hval 1 _ v1 rfl rfl) h1 (fun x hx => hlt x (by simp [hx]))
  obtain ⟨a1, rfl, g1, i1⟩ := advs_of_rows l1 e1 r1
  have o1 := trod_slice_none Try.underlying24 h1
  rw [List.length_map] at m1 o1 ⊢
  obtain ⟨s2, c2, a2, rfl, g2, r2, m2⟩ := open_Rows (k := .i64) Try.underlying52 Try.underlying23 (by kernel_rfl) (by kernel_rfl) (by decide) (by kernel_rfl) (hval 2 _ v2 rfl rfl) h2 (fun x hx => hlt x (by simp [hx]))
  exact (budgetFits_walk a0 _ _ a1 i1 m1 o1 _ _ a2 r2 m2 W g1 g2).mono fun _ _ h => h

set_option maxRecDepth 100000 in
theorem lifted (os : Os) (started : os.Started) (H : Type) (enc : TypeId × Value → H) :
    ReturnsInHanded {} Try.checked os 7 .any (Rows.budgetFitsSpec.pre6 enc Try.prog Try.f7 Rows.budgetFitsRow.domain false) (Rows.budgetFitsSpec.post enc Try.prog Try.f7 false true false false) :=
  law_lift (C := Try.checked) own started (by kernel_rfl) Try.func7 laidOut (by kernel_rfl) rfl Try.underlying4 rfl
    (fun ds h => match ds, h with | [d0, d1, d2], _ => rfl)
    (ChangeSpec.witness6 (enc := enc) (C := Try.checked) false ⟨#[], #[.int .i64 0, .slice none 0 0, .slice none 0 0], []⟩ 8 (by kernel_rfl) (by kernel_rfl) (by kernel_rfl) (by kernel_rfl))
    (law enc)

theorem over : Rows.budgetFitsRow.holds Try.pinned (OpenSpec.ofChange Rows.budgetFitsSpec) :=
  OpenClaim.holds_of_wide 7 Try.f7 rfl rfl rfl rfl rfl rfl rfl ⟨rfl, rfl, rfl, rfl, rfl⟩ rfl rfl rfl rfl rfl (by kernel_rfl) Try.func7 (by kernel_rfl)
    (of_decide_eq_true (by kernel_rfl)) (by unfold Func.isWrapper; first | (rw [if_pos (by decide +kernel)]; kernel_rfl) | (rw [if_neg (by decide +kernel)]; exact ⟨rfl, rfl⟩))
    (fun os started H enc _ => lifted os started H enc)

theorem proved : Rows.BudgetFitsSaid := over
end Go.Proofs.Ytcanbagnehdbiaa.budgetFits
