/- The law flywheellaw44.TrialJudges: whatever its arguments, the call returns true and leaves them as they are. No condition. -/
import Derived.Test.YtcinfpgpldmkaaaTri4
namespace Go.Proofs.Ytcinfpgpldmkaaa.trialJudges
open Go.ChangeShapes Go.WideShapes Go.ChangeAt Go.RowKit

set_option maxRecDepth 100000 in
theorem law {H : Type} (enc : TypeId × Value → H) : Law enc Try.prog 9 Try.f9 := by
  intro W base args ds p hval hA hwt hnf hlt
  rw [Try.params9] at hA hval hwt
  obtain ⟨v0, vs0, d0, ds0, p0, q0, hargs, rfl, rfl, h0, r0⟩ := trodAll_cons hA
  obtain ⟨v1, vs1, d1, ds1, p1, q1, rfl, rfl, rfl, h1, r1⟩ := trodAll_cons r0
  obtain ⟨rfl, rfl, rfl⟩ := trodAll_nil r1
  obtain rfl : args = #[v0, v1] := by cases args; simp_all
  obtain ⟨l0, n0, rfl, g0, rfl⟩ := open_ints_struct (k := .i64) Try.underlying44 (by kernel_rfl) (by kernel_rfl) (by kernel_rfl) (hval 0 _ v0 rfl rfl) h0
  obtain ⟨a0, rfl, i0⟩ := pol_of_list l0 n0 g0
  obtain ⟨s1, c1, l1, rfl, e1, r1, m1⟩ := open_Rows (k := .i64) Try.underlying22 Try.underlying24 (by kernel_rfl) (by kernel_rfl) (by decide) (by kernel_rfl) (hval 1 _ v1 rfl rfl) h1 (fun x hx => hlt x (by simp [hx]))
  obtain ⟨a1, rfl, g1, i1⟩ := advs_of_rows l1 e1 r1
  have o1 := trod_slice_none Try.underlying22 h1
  rw [List.length_map] at m1 o1 ⊢
  exact (trialJudges_walk a0 i0 _ _ a1 i1 m1 o1 W g1).mono fun _ _ h => h

set_option maxRecDepth 100000 in
theorem lifted (os : Os) (started : os.Started) (H : Type) (enc : TypeId × Value → H) :
    ReturnsInHanded {} Try.checked os 9 .any (Rows.trialJudgesSpec.pre6 enc Try.prog Try.f9 Rows.trialJudgesRow.domain false) (Rows.trialJudgesSpec.post enc Try.prog Try.f9 false true false false) :=
  law_lift (C := Try.checked) own started (by kernel_rfl) Try.func9 laidOut (by kernel_rfl) rfl Try.underlying4 rfl
    (fun ds h => match ds, h with | [d0, d1], _ => rfl)
    (ChangeSpec.witness6 (enc := enc) (C := Try.checked) false ⟨#[], #[.agg #[.int .i64 0, .int .i64 0, .int .i64 0, .int .i64 0, .int .i64 0, .int .i64 0], .slice none 0 0], []⟩ 8 (by kernel_rfl) (by kernel_rfl) (by kernel_rfl) (by kernel_rfl))
    (law enc)

theorem over : Rows.trialJudgesRow.holds Try.pinned (OpenSpec.ofChange Rows.trialJudgesSpec) :=
  OpenClaim.holds_of_wide 9 Try.f9 rfl rfl rfl rfl rfl rfl rfl ⟨rfl, rfl, rfl, rfl, rfl⟩ rfl rfl rfl rfl rfl (by kernel_rfl) Try.func9 (by kernel_rfl)
    (of_decide_eq_true (by kernel_rfl)) (by unfold Func.isWrapper; first | (rw [if_pos (by decide +kernel)]; kernel_rfl) | (rw [if_neg (by decide +kernel)]; exact ⟨rfl, rfl⟩))
    (fun os started H enc _ => lifted os started H enc)

theorem proved : Rows.TrialJudgesSaid := over
end Go.Proofs.Ytcinfpgpldmkaaa.trialJudges
