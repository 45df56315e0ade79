/- The law flywheellaw44.TrialOrders: whatever its arguments, the call returns true and leaves them as they are. No condition. -/
import Derived.Test.YtcinfpgpldmkaaaTriOrd2
namespace Go.Proofs.Ytcinfpgpldmkaaa.trialOrders
open Go.ChangeShapes Go.WideShapes Go.ChangeAt Go.RowKit

set_option maxRecDepth 100000 in
theorem law {H : Type} (enc : TypeId × Value → H) : Law enc Try.prog 10 Try.f10 := by
  intro W base args ds p hval hA hwt hnf hlt
  rw [Try.params10] at hA hval hwt
  obtain ⟨v0, vs0, d0, ds0, p0, q0, hargs, rfl, rfl, h0, r0⟩ := trodAll_cons hA
  obtain ⟨v1, vs1, d1, ds1, p1, q1, rfl, rfl, rfl, h1, r1⟩ := trodAll_cons r0
  obtain ⟨v2, vs2, d2, ds2, p2, q2, rfl, rfl, rfl, h2, r2⟩ := trodAll_cons r1
  obtain ⟨rfl, rfl, rfl⟩ := trodAll_nil r2
  obtain rfl : args = #[v0, v1, v2] := by cases args; simp_all
  obtain ⟨s0, n0, c0, C0, T0, a0, b0, x0, y0, rfl⟩ := open_res (e := 24) Try.underlying61 (by kernel_rfl) (by kernel_rfl) (by kernel_rfl) (hval 0 _ v0 rfl rfl) h0
  obtain ⟨s1, n1, c1, C1, T1, a1, b1, x1, y1, rfl⟩ := open_res (e := 24) Try.underlying61 (by kernel_rfl) (by kernel_rfl) (by kernel_rfl) (hval 1 _ v1 rfl rfl) h1
  obtain ⟨s2, n2, c2, C2, T2, a2, b2, x2, y2, rfl⟩ := open_res (e := 24) Try.underlying61 (by kernel_rfl) (by kernel_rfl) (by kernel_rfl) (hval 2 _ v2 rfl rfl) h2
  exact (trialOrders_walk s0 n0 c0 C0 T0 a0 b0 x0 y0 s1 n1 c1 C1 T1 a1 b1 x1 y1 s2 n2 c2 C2 T2 a2 b2 x2 y2 W).mono fun _ _ h => h

set_option maxRecDepth 100000 in
theorem lifted (os : Os) (started : os.Started) (H : Type) (enc : TypeId × Value → H) :
    ReturnsInHanded {} Try.checked os 10 .any (Rows.trialOrdersSpec.pre6 enc Try.prog Try.f10 Rows.trialOrdersRow.domain false) (Rows.trialOrdersSpec.post enc Try.prog Try.f10 false true false false) :=
  law_lift (C := Try.checked) own started (by kernel_rfl) Try.func10 laidOut (by kernel_rfl) rfl Try.underlying4 rfl
    (fun ds h => match ds, h with | [d0, d1, d2], _ => rfl)
    (ChangeSpec.witness6 (enc := enc) (C := Try.checked) false ⟨#[], #[.agg #[.slice none 0 0, .int .i64 0, .int .i64 0, .int .i64 0, .int .i64 0, .int .i64 0, .int .i64 0], .agg #[.slice none 0 0, .int .i64 0, .int .i64 0, .int .i64 0, .int .i64 0, .int .i64 0, .int .i64 0], .agg #[.slice none 0 0, .int .i64 0, .int .i64 0, .int .i64 0, .int .i64 0, .int .i64 0, .int .i64 0]], []⟩ 8 (by kernel_rfl) (by kernel_rfl) (by kernel_rfl) (by kernel_rfl))
    (law enc)

theorem over : Rows.trialOrdersRow.holds Try.pinned (OpenSpec.ofChange Rows.trialOrdersSpec) :=
  OpenClaim.holds_of_wide 10 Try.f10 rfl rfl rfl rfl rfl rfl rfl ⟨rfl, rfl, rfl, rfl, rfl⟩ rfl rfl rfl rfl rfl (by kernel_rfl) Try.func10 (by kernel_rfl)
    (of_decide_eq_true (by kernel_rfl)) (by unfold Func.isWrapper; first | (rw [if_pos (by decide +kernel)]; kernel_rfl) | (rw [if_neg (by decide +kernel)]; exact ⟨rfl, rfl⟩))
    (fun os started H enc _ => lifted os started H enc)

theorem proved : Rows.TrialOrdersSaid := over
end Go.Proofs.Ytcinfpgpldmkaaa.trialOrders
