/- The law flywheellaw23.FifoTexts: whatever its arguments, the call returns true and leaves them as they are. No condition. -/
import Derived.Test.YtapgcbjlgekpeaaJLaws23v
namespace Go.Proofs.Ytapgcbjlgekpeaa.fifoTexts
open Go.ChangeShapes Go.WideShapes Go.ChangeAt Go.RowKit

set_option maxRecDepth 100000 in
theorem law {H : Type} (enc : TypeId × Value → H) : Law enc Try.prog 10 Try.f10 := by
  intro W base args ds p hval hA hwt hnf hlt
  rw [Try.params10] at hA hval hwt
  obtain ⟨v0, vs0, d0, ds0, p0, q0, hargs, rfl, rfl, h0, r0⟩ := trodAll_cons hA
  obtain ⟨v1, vs1, d1, ds1, p1, q1, rfl, rfl, rfl, h1, r1⟩ := trodAll_cons r0
  obtain ⟨rfl, rfl, rfl⟩ := trodAll_nil r1
  obtain rfl : args = #[v0, v1] := by cases args; simp_all
  obtain ⟨s0, c0, a0, rfl, g0, m0, o0, z0⟩ := open_StrsC Try.underlying92 Try.underlying9 (by kernel_rfl) (hval 0 _ v0 rfl rfl) h0 (fun x hx => hlt x (by simp [hx]))
  obtain ⟨a1, rfl, rfl, rfl, w1⟩ := open_int Try.underlying3 (hval 1 _ v1 rfl rfl) h1
  exact (fifoTexts_walk _ _ a0 m0 a1 W g0).mono fun _ _ h => h

set_option maxRecDepth 100000 in
theorem lifted (os : Os) (started : os.Started) (H : Type) (enc : TypeId × Value → H) :
    ReturnsInHanded {} Try.checked os 10 .any (Rows.fifoTextsSpec.pre6 enc Try.prog Try.f10 Rows.fifoTextsRow.domain false) (Rows.fifoTextsSpec.post enc Try.prog Try.f10 false true false false) :=
  law_lift (C := Try.checked) own started (by kernel_rfl) Try.func10 laidOut (by kernel_rfl) rfl Try.underlying4 rfl
    (fun ds h => match ds, h with | [d0, d1], _ => rfl)
    (ChangeSpec.witness6 (enc := enc) (C := Try.checked) false ⟨#[], #[.slice none 0 0, .int .i64 0], []⟩ 8 (by kernel_rfl) (by kernel_rfl) (by kernel_rfl) (by kernel_rfl))
    (law enc)

theorem over : Rows.fifoTextsRow.holds Try.pinned (OpenSpec.ofChange Rows.fifoTextsSpec) :=
  OpenClaim.holds_of_wide 10 Try.f10 rfl rfl rfl rfl rfl rfl rfl ⟨rfl, rfl, rfl, rfl, rfl⟩ rfl rfl rfl rfl rfl (by kernel_rfl) Try.func10 (by kernel_rfl)
    (of_decide_eq_true (by kernel_rfl)) (by unfold Func.isWrapper; first | (rw [if_pos (by decide +kernel)]; kernel_rfl) | (rw [if_neg (by decide +kernel)]; exact ⟨rfl, rfl⟩))
    (fun os started H enc _ => lifted os started H enc)

theorem proved : Rows.FifoTextsSaid := over
end Go.Proofs.Ytapgcbjlgekpeaa.fifoTexts
