/- Arguments, opened. -/
import Derived.Test.YtdchooggindihaaBase
import Derived.Lib.SmallJoins
namespace Go.Proofs.Ytdchooggindihaa
open Go.ChangeShapes Go.WideShapes Go.ChangeAt Go.RowKit Go.Joins Go.Deep

theorem nat_u64 {a : Int} (h : (Lit.int .u64 a).wf = true) : ∃ n : Nat, a = n ∧ n < 18446744073709551616 := by
  obtain ⟨h0, h1⟩ := U64.of_wf h
  exact ⟨a.toNat, by omega, by omega⟩
theorem nat_u8 {a : Int} (h : (Lit.int .u8 a).wf = true) : ∃ n : Nat, a = n ∧ n < 256 := by
  obtain ⟨h0, h1⟩ := U8.of_wf h
  exact ⟨a.toNat, by omega, by omega⟩

/-- A struct of two integers. -/
theorem open_pair {H : Type} {enc : TypeId × Value → H} {P : Program} {w : World} {base : Nat} {sp : Nat → Bool} {hd : Bool} {r : Reach} {b0 : Nat} {t : TypeId} {f0 f1 : Field} {k0 k1 : IntKind} {v : Value} {d : DataW H} {ps : List MemPlace}
    (hs : P.underlying t = some (.struct #[f0, f1])) (hone : oneCellFields P #[f0, f1] = true) (hC : P.cellsOf t = 2) (h0 : P.underlying f0.type = some (.int k0)) (h1 : P.underlying f1.type = some (.int k1))
    (hv : Value.okWide P w r b0 t v) (h : DataW.Trod enc P w base sp hd t v d ps) :
    ∃ a b : Int, v = .agg #[.int k0 a, .int k1 b] ∧ (Lit.int k0 a).wf = true ∧ (Lit.int k1 b).wf = true ∧ ps = [] := by
  obtain ⟨c0, c1, y0, y1, m, rfl, rfl, rfl, e0, e1⟩ := open_agg2 hs hone hC hv h
  obtain ⟨a, i0, j0, wa⟩ := DataW.trod_int h0 e0
  obtain ⟨b, i1, j1, wb⟩ := DataW.trod_int h1 e1
  simp at i0 i1
  subst i0 i1
  exact ⟨a, b, rfl, wa, wb, by rw [j0, j1]; rfl⟩
end Go.Proofs.Ytdchooggindihaa
