/- The law flywheellaw11.PackPuts: whatever its arguments, the call returns true and leaves them as they are. No condition. -/
import Derived.Test.YtapgcbjlgekpeaaJLaws11
namespace Go.Proofs.Ytapgcbjlgekpeaa.packPuts
open Go.ChangeShapes Go.WideShapes Go.ChangeAt Go.RowKit

set_option maxRecDepth 100000 in
theorem law {H : Type} (enc : TypeId × Value → H) : Law enc Try.prog 7 Try.f7 := by
  intro W base args ds p hval hA hwt hnf hlt
  rw [Try.params7] at hA hval hwt
  obtain ⟨v0, vs0, d0, ds0, p0, q0, hargs, rfl, rfl, h0, r0⟩ := trodAll_cons hA
  obtain ⟨rfl, rfl, rfl⟩ := trodAll_nil r0
  obtain rfl : args = #[v0] := by cases args; simp_all
  obtain ⟨s0, c0, l0, rfl, e0, r0, m0⟩ := open_Rows (k := .i64) Try.underlying37 Try.underlying23 (by kernel_rfl) (by kernel_rfl) (by decide) (by kernel_rfl) (hval 0 _ v0 rfl rfl) h0 (fun x hx => hlt x (by simp [hx]))
  obtain ⟨a0, rfl, g0, i0⟩ := samps_of_rows l0 e0 r0
  rw [List.length_map] at m0 ⊢
  exact (packPuts_walk _ _ a0 m0 i0 W g0).mono fun _ _ h => h

set_option maxRecDepth 100000 in
theorem lifted (os : Os) (started : os.Started) (H : Type) (enc : TypeId × Value → H) :
    ReturnsInHanded {} Try.checked os 7 .any (Rows.packPutsSpec.pre6 enc Try.prog Try.f7 Rows.packPutsRow.domain false) (Rows.packPutsSpec.post enc Try.prog Try.f7 false true false false) :=
  law_lift (C := Try.checked) own started (by kernel_rfl) Try.func7 laidOut (by kernel_rfl) rfl Try.underlying4 rfl
    (fun ds h => match ds, h with | [d0], _ => rfl)
    (ChangeSpec.witness6 (enc := enc) (C := Try.checked) false ⟨#[], #[.slice none 0 0], []⟩ 8 (by kernel_rfl) (by kernel_rfl) (by kernel_rfl) (by kernel_rfl))
    (law enc)

theorem over : Rows.packPutsRow.holds Try.pinned (OpenSpec.ofChange Rows.packPutsSpec) :=
  OpenClaim.holds_of_wide 7 Try.f7 rfl rfl rfl rfl rfl rfl rfl ⟨rfl, rfl, rfl, rfl, rfl⟩ rfl rfl rfl rfl rfl (by kernel_rfl) Try.func7 (by kernel_rfl)
    (of_decide_eq_true (by kernel_rfl)) (by unfold Func.isWrapper; first | (rw [if_pos (by decide +kernel)]; kernel_rfl) | (rw [if_neg (by decide +kernel)]; exact ⟨rfl, rfl⟩))
    (fun os started H enc _ => lifted os started H enc)

theorem proved : Rows.PackPutsSaid := over
end Go.Proofs.Ytapgcbjlgekpeaa.packPuts
