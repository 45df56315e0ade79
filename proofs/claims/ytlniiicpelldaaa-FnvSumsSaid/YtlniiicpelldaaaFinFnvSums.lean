/- The law flywheellaw04.FnvSums: whatever its arguments, the call returns true and leaves them as they are. No condition. -/
import Derived.Test.YtlniiicpelldaaaLaws04
namespace Go.Proofs.Ytlniiicpelldaaa.fnvSums
open Go.ChangeShapes Go.WideShapes Go.ChangeAt Go.RowKit

set_option maxRecDepth 100000 in
theorem law {H : Type} (enc : TypeId × Value → H) : Law enc Try.prog 7 Try.f7 := by
  intro W base args ds p hval hA hwt hnf hlt
  rw [Try.params7] at hA hval hwt
  obtain ⟨v0, vs0, d0, ds0, p0, q0, hargs, rfl, rfl, h0, r0⟩ := trodAll_cons hA
  obtain ⟨v1, vs1, d1, ds1, p1, q1, rfl, rfl, rfl, h1, r1⟩ := trodAll_cons r0
  obtain ⟨rfl, rfl, rfl⟩ := trodAll_nil r1
  obtain rfl : args = #[v0, v1] := by cases args; simp_all
  obtain ⟨a0, rfl, rfl, rfl, w0⟩ := ChangeMaps.open_string Try.underlying9 (hval 0 _ v0 rfl rfl) h0
  obtain ⟨x1, y1, rfl, u1, t1, rfl⟩ := open_pair Try.underlying25 (by kernel_rfl) (by kernel_rfl) Try.underlying23 Try.underlying23 (hval 1 _ v1 rfl rfl) h1
  obtain ⟨m1, rfl, l1⟩ := nat_u64 u1
  obtain ⟨n1, rfl, k1⟩ := nat_u64 t1
  exact (fnvSums_walk a0 m1 n1 l1 k1 W).mono fun _ _ h => h

set_option maxRecDepth 100000 in
theorem lifted (os : Os) (started : os.Started) (H : Type) (enc : TypeId × Value → H) :
    ReturnsInHanded {} Try.checked os 7 .any (Rows.fnvSumsSpec.pre6 enc Try.prog Try.f7 Rows.fnvSumsRow.domain false) (Rows.fnvSumsSpec.post enc Try.prog Try.f7 false true false false) :=
  law_lift (C := Try.checked) own started (by kernel_rfl) Try.func7 laidOut (by kernel_rfl) rfl Try.underlying4 rfl
    (fun ds h => match ds, h with | [d0, d1], _ => rfl)
    (ChangeSpec.witness6 (enc := enc) (C := Try.checked) false ⟨#[], #[.string ByteArray.empty, .agg #[.int .u64 0, .int .u64 0]], []⟩ 8 (by kernel_rfl) (by kernel_rfl) (by kernel_rfl) (by kernel_rfl))
    (law enc)

theorem over : Rows.fnvSumsRow.holds Try.pinned (OpenSpec.ofChange Rows.fnvSumsSpec) :=
  OpenClaim.holds_of_wide 7 Try.f7 rfl rfl rfl rfl rfl rfl rfl ⟨rfl, rfl, rfl, rfl, rfl⟩ rfl rfl rfl rfl rfl (by kernel_rfl) Try.func7 (by kernel_rfl)
    (of_decide_eq_true (by kernel_rfl)) (by unfold Func.isWrapper; first | (rw [if_pos (by decide +kernel)]; kernel_rfl) | (rw [if_neg (by decide +kernel)]; exact ⟨rfl, rfl⟩))
    (fun os started H enc _ => lifted os started H enc)

theorem proved : Rows.FnvSumsSaid := over
end Go.Proofs.Ytlniiicpelldaaa.fnvSums
