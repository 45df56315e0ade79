/- The law flywheellaw02.WideAdds: whatever its arguments, the call returns true and leaves them as they are. No condition. -/
import Derived.Test.YthlcjigpccmbmaaLaws02b
namespace Go.Proofs.Ythlcjigpccmbmaa.wideAdds
open Go.ChangeShapes Go.WideShapes Go.ChangeAt Go.RowKit

set_option maxRecDepth 100000 in
theorem law {H : Type} (enc : TypeId × Value → H) : Law enc Try.prog 8 Try.f8 := by
  intro W base args ds p hval hA hwt hnf hlt
  rw [Try.params8] at hA hval hwt
  obtain ⟨v0, vs0, d0, ds0, p0, q0, hargs, rfl, rfl, h0, r0⟩ := trodAll_cons hA
  obtain ⟨v1, vs1, d1, ds1, p1, q1, rfl, rfl, rfl, h1, r1⟩ := trodAll_cons r0
  obtain ⟨v2, vs2, d2, ds2, p2, q2, rfl, rfl, rfl, h2, r2⟩ := trodAll_cons r1
  obtain ⟨v3, vs3, d3, ds3, p3, q3, rfl, rfl, rfl, h3, r3⟩ := trodAll_cons r2
  obtain ⟨rfl, rfl, rfl⟩ := trodAll_nil r3
  obtain rfl : args = #[v0, v1, v2, v3] := by cases args; simp_all
  obtain ⟨b0, rfl, rfl, rfl, w0⟩ := open_int Try.underlying34 (hval 0 _ v0 rfl rfl) h0
  obtain ⟨a0, rfl, l0⟩ := nat_u64 w0
  obtain ⟨b1, rfl, rfl, rfl, w1⟩ := open_int Try.underlying34 (hval 1 _ v1 rfl rfl) h1
  obtain ⟨a1, rfl, l1⟩ := nat_u64 w1
  obtain ⟨x2, y2, rfl, u2, t2, rfl⟩ := open_pair Try.underlying36 (by kernel_rfl) (by kernel_rfl) Try.underlying34 Try.underlying34 (hval 2 _ v2 rfl rfl) h2
  obtain ⟨m2, rfl, l2⟩ := nat_u64 u2
  obtain ⟨n2, rfl, k2⟩ := nat_u64 t2
  rw [show Value.agg #[.int .u64 (m2 : Int), .int .u64 (n2 : Int)] = two (m2 * 18446744073709551616 + n2) from two_eq (by omega) (by omega)]
  obtain ⟨x3, y3, rfl, u3, t3, rfl⟩ := open_pair Try.underlying36 (by kernel_rfl) (by kernel_rfl) Try.underlying34 Try.underlying34 (hval 3 _ v3 rfl rfl) h3
  obtain ⟨m3, rfl, l3⟩ := nat_u64 u3
  obtain ⟨n3, rfl, k3⟩ := nat_u64 t3
  rw [show Value.agg #[.int .u64 (m3 : Int), .int .u64 (n3 : Int)] = two (m3 * 18446744073709551616 + n3) from two_eq (by omega) (by omega)]
  exact (wideAdds_walk a0 a1 l0 l1 (m2 * 18446744073709551616 + n2) (m3 * 18446744073709551616 + n3) (by omega) (by omega) W).mono fun _ _ h => h

set_option maxRecDepth 100000 in
theorem lifted (os : Os) (started : os.Started) (H : Type) (enc : TypeId × Value → H) :
    ReturnsInHanded {} Try.checked os 8 .any (Rows.wideAddsSpec.pre6 enc Try.prog Try.f8 Rows.wideAddsRow.domain false) (Rows.wideAddsSpec.post enc Try.prog Try.f8 false true false false) :=
  law_lift (C := Try.checked) own started (by kernel_rfl) Try.func8 laidOut (by kernel_rfl) rfl Try.underlying4 rfl
    (fun ds h => match ds, h with | [d0, d1, d2, d3], _ => rfl)
    (ChangeSpec.witness6 (enc := enc) (C := Try.checked) false ⟨#[], #[.int .u64 0, .int .u64 0, .agg #[.int .u64 0, .int .u64 0], .agg #[.int .u64 0, .int .u64 0]], []⟩ 8 (by kernel_rfl) (by kernel_rfl) (by kernel_rfl) (by kernel_rfl))
    (law enc)

theorem over : Rows.wideAddsRow.holds Try.pinned (OpenSpec.ofChange Rows.wideAddsSpec) :=
  OpenClaim.holds_of_wide 8 Try.f8 rfl rfl rfl rfl rfl rfl rfl ⟨rfl, rfl, rfl, rfl, rfl⟩ rfl rfl rfl rfl rfl (by kernel_rfl) Try.func8 (by kernel_rfl)
    (of_decide_eq_true (by kernel_rfl)) (by unfold Func.isWrapper; first | (rw [if_pos (by decide +kernel)]; kernel_rfl) | (rw [if_neg (by decide +kernel)]; exact ⟨rfl, rfl⟩))
    (fun os started H enc _ => lifted os started H enc)

theorem proved : Rows.WideAddsSaid := over
end Go.Proofs.Ythlcjigpccmbmaa.wideAdds
