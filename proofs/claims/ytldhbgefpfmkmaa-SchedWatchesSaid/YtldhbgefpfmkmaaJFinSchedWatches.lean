/- The law flywheellaw27.SchedWatches: whatever its arguments, the call returns true and leaves them as they are. No condition. -/
import Derived.Test.YtldhbgefpfmkmaaJLaws27f
namespace Go.Proofs.Ytldhbgefpfmkmaa.schedWatches
open Go.ChangeShapes Go.WideShapes Go.ChangeAt Go.RowKit

set_option maxRecDepth 100000 in
theorem law {H : Type} (enc : TypeId × Value → H) : Law enc Try.prog 11 Try.f11 := by
  intro W base args ds p hval hA hwt hnf hlt
  rw [Try.params11] at hA hval hwt
  obtain ⟨v0, vs0, d0, ds0, p0, q0, hargs, rfl, rfl, h0, r0⟩ := trodAll_cons hA
  obtain ⟨v1, vs1, d1, ds1, p1, q1, rfl, rfl, rfl, h1, r1⟩ := trodAll_cons r0
  obtain ⟨v2, vs2, d2, ds2, p2, q2, rfl, rfl, rfl, h2, r2⟩ := trodAll_cons r1
  obtain ⟨rfl, rfl, rfl⟩ := trodAll_nil r2
  obtain rfl : args = #[v0, v1, v2] := by cases args; simp_all
  obtain ⟨s0, c0, l0, rfl, e0, r0, m0⟩ := open_Rows (k := .i64) Try.underlying73 Try.underlying157 (by kernel_rfl) (by kernel_rfl) (by decide) (by kernel_rfl) (hval 0 _ v0 rfl rfl) h0 (fun x hx => hlt x (by simp [hx]))
  obtain ⟨a0, rfl, g0, i0⟩ := toys_of_rows l0 e0 r0
  have o0 := trod_slice_none Try.underlying73 h0
  rw [List.length_map] at m0 o0 ⊢
  obtain ⟨s1, c1, a1, rfl, i1, w1, m1, k1⟩ := open_IntsC Try.underlying74 Try.underlying3 (by kernel_rfl) (hval 1 _ v1 rfl rfl) h1 (fun x hx => hlt x (by simp [hx]))
  obtain ⟨b2, rfl, rfl, rfl, w2⟩ := open_int Try.underlying5 (hval 2 _ v2 rfl rfl) h2
  obtain ⟨a2, rfl, l2⟩ := nat_u8 w2
  exact (schedWatches_walk _ _ a0 i0 m0 o0 _ _ a1 (fun x hx => I64.of_wf (w1 x hx)) m1 a2 l2 W g0 i1).mono fun _ _ h => h

set_option maxRecDepth 100000 in
theorem lifted (os : Os) (started : os.Started) (H : Type) (enc : TypeId × Value → H) :
    ReturnsInHanded {} Try.checked os 11 .any (Rows.schedWatchesSpec.pre6 enc Try.prog Try.f11 Rows.schedWatchesRow.domain false) (Rows.schedWatchesSpec.post enc Try.prog Try.f11 false true false false) :=
  law_lift (C := Try.checked) own started (by kernel_rfl) Try.func11 laidOut (by kernel_rfl) rfl Try.underlying4 rfl
    (fun ds h => match ds, h with | [d0, d1, d2], _ => rfl)
    (ChangeSpec.witness6 (enc := enc) (C := Try.checked) false ⟨#[], #[.slice none 0 0, .slice none 0 0, .int .u8 0], []⟩ 8 (by kernel_rfl) (by kernel_rfl) (by kernel_rfl) (by kernel_rfl))
    (law enc)

theorem over : Rows.schedWatchesRow.holds Try.pinned (OpenSpec.ofChange Rows.schedWatchesSpec) :=
  OpenClaim.holds_of_wide 11 Try.f11 rfl rfl rfl rfl rfl rfl rfl ⟨rfl, rfl, rfl, rfl, rfl⟩ rfl rfl rfl rfl rfl (by kernel_rfl) Try.func11 (by kernel_rfl)
    (of_decide_eq_true (by kernel_rfl)) (by unfold Func.isWrapper; first | (rw [if_pos (by decide +kernel)]; kernel_rfl) | (rw [if_neg (by decide +kernel)]; exact ⟨rfl, rfl⟩))
    (fun os started H enc _ => lifted os started H enc)

theorem proved : Rows.SchedWatchesSaid := over
end Go.Proofs.Ytldhbgefpfmkmaa.schedWatches
