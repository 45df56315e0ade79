/- The law flywheellaw06.ZigReads: whatever its arguments, the call returns true and leaves them as they are. No condition. -/
import Derived.Test.YtlniiicpelldaaaLaws06
namespace Go.Proofs.Ytlniiicpelldaaa.zigReads
open Go.ChangeShapes Go.WideShapes Go.ChangeAt Go.RowKit

set_option maxRecDepth 100000 in
theorem law {H : Type} (enc : TypeId × Value → H) : Law enc Try.prog 14 Try.f14 := by
  intro W base args ds p hval hA hwt hnf hlt
  rw [Try.params14] at hA hval hwt
  obtain ⟨v0, vs0, d0, ds0, p0, q0, hargs, rfl, rfl, h0, r0⟩ := trodAll_cons hA
  obtain ⟨v1, vs1, d1, ds1, p1, q1, rfl, rfl, rfl, h1, r1⟩ := trodAll_cons r0
  obtain ⟨rfl, rfl, rfl⟩ := trodAll_nil r1
  obtain rfl : args = #[v0, v1] := by cases args; simp_all
  obtain ⟨s0, c0, b0, rfl, i0, w0, m0, k0⟩ := open_IntsC Try.underlying46 Try.underlying5 (by kernel_rfl) (hval 0 _ v0 rfl rfl) h0 (fun x hx => hlt x (by simp [hx]))
  obtain ⟨a0, rfl, l0⟩ := nats_of b0 w0
  have j0 := bytes_of_ints i0
  rw [List.length_map] at m0 k0 ⊢
  obtain ⟨b1, rfl, rfl, rfl, w1⟩ := open_int Try.underlying23 (hval 1 _ v1 rfl rfl) h1
  obtain ⟨a1, rfl, l1⟩ := nat_u64 w1
  exact (zigReads_walk _ _ a0 a1 l1 W j0 l0 k0 m0).mono fun _ _ h => h

set_option maxRecDepth 100000 in
theorem lifted (os : Os) (started : os.Started) (H : Type) (enc : TypeId × Value → H) :
    ReturnsInHanded {} Try.checked os 14 .any (Rows.zigReadsSpec.pre6 enc Try.prog Try.f14 Rows.zigReadsRow.domain false) (Rows.zigReadsSpec.post enc Try.prog Try.f14 false true false false) :=
  law_lift (C := Try.checked) own started (by kernel_rfl) Try.func14 laidOut (by kernel_rfl) rfl Try.underlying4 rfl
    (fun ds h => match ds, h with | [d0, d1], _ => rfl)
    (ChangeSpec.witness6 (enc := enc) (C := Try.checked) false ⟨#[], #[.slice none 0 0, .int .u64 0], []⟩ 8 (by kernel_rfl) (by kernel_rfl) (by kernel_rfl) (by kernel_rfl))
    (law enc)

theorem over : Rows.zigReadsRow.holds Try.pinned (OpenSpec.ofChange Rows.zigReadsSpec) :=
  OpenClaim.holds_of_wide 14 Try.f14 rfl rfl rfl rfl rfl rfl rfl ⟨rfl, rfl, rfl, rfl, rfl⟩ rfl rfl rfl rfl rfl (by kernel_rfl) Try.func14 (by kernel_rfl)
    (of_decide_eq_true (by kernel_rfl)) (by unfold Func.isWrapper; first | (rw [if_pos (by decide +kernel)]; kernel_rfl) | (rw [if_neg (by decide +kernel)]; exact ⟨rfl, rfl⟩))
    (fun os started H enc _ => lifted os started H enc)

theorem proved : Rows.ZigReadsSaid := over
end Go.Proofs.Ytlniiicpelldaaa.zigReads
