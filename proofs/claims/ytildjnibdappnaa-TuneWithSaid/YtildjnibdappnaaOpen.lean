/- Arguments, opened. -/
import Derived.Test.YtildjnibdappnaaBase
import Derived.Lib.SmallJoins
namespace Go.Proofs.Ytildjnibdappnaa
open Go.ChangeShapes Go.WideShapes Go.ChangeAt Go.RowKit Go.Joins Go.Deep

theorem nat_u64 {a : Int} (h : (Lit.int .u64 a).wf = true) : ∃ n : Nat, a = n ∧ n < 18446744073709551616 := by
  obtain ⟨h0, h1⟩ := U64.of_wf h
  exact ⟨a.toNat, by omega, by omega⟩
theorem nat_u8 {a : Int} (h : (Lit.int .u8 a).wf = true) : ∃ n : Nat, a = n ∧ n < 256 := by
  obtain ⟨h0, h1⟩ := U8.of_wf h
  exact ⟨a.toNat, by omega, by omega⟩

/-- A struct of two integers. -/
theorem open_pair {H : Type} {enc : TypeId × Value → H} {P : Program} {w : World} {base : Nat} {sp : Nat → Bool} {hd : Bool} {r : Reach} {b0 : Nat} {t : TypeId} {f0 f1 : Field} {k0 k1 : IntKind} {v : Value} {d : DataW H} {ps : List MemPlace}
    (hs : P.underlying t = some (.struct #[f0, f1])) (hone : oneCellFields P #[f0, f1] = true) (hC : P.cellsOf t = 2) (h0 : P.underlying f0.type = some (.int k0)) (h1 : P.underlying f1.type = some (.int k1))
    (hv : Value.okWide P w r b0 t v) (h : DataW.Trod enc P w base sp hd t v d ps) :
    ∃ a b : Int, v = .agg #[.int k0 a, .int k1 b] ∧ (Lit.int k0 a).wf = true ∧ (Lit.int k1 b).wf = true ∧ ps = [] := by
  obtain ⟨c0, c1, y0, y1, m, rfl, rfl, rfl, e0, e1⟩ := open_agg2 hs hone hC hv h
  obtain ⟨a, i0, j0, wa⟩ := DataW.trod_int h0 e0
  obtain ⟨b, i1, j1, wb⟩ := DataW.trod_int h1 e1
  simp at i0 i1
  subst i0 i1
  exact ⟨a, b, rfl, wa, wb, by rw [j0, j1]; rfl⟩
theorem open_IntsC {H : Type} {enc : TypeId × Value → H} {P : Program} {w : World} {base : Nat} {sp : Nat → Bool} {hd : Bool} {r : Reach} {b0 : Nat} {t e : TypeId} {k : IntKind} {v : Value} {d : DataW H} {ps : List MemPlace}
    (ht : P.underlying t = some (.slice e)) (he : P.underlying e = some (.int k)) (hc : P.cellsOf e = 1) (hv : Value.okWide P w r b0 t v) (h : DataW.Trod enc P w base sp hd t v d ps) (hlt : ∀ x ∈ ps, x.block < w.heap.size) :
    ∃ (p : Option Addr) (cap : Nat) (l : List Int), v = .slice p l.length cap ∧ Ints k w p l ∧ (∀ n ∈ l, (Lit.int k n).wf = true) ∧ l.length ≤ 9223372036854775807 ∧ l.length ≤ cap := by
  obtain ⟨a0, len, cap, rfl⟩ := okWide_slice ht hv
  obtain ⟨fuel, hf⟩ := h
  rcases open_ints ht he hc hf with ⟨hcs, hx⟩ | ⟨a, len', cap', zs, hcs, _, hl, hm, hz, hx, hcell, hwz⟩
  · simp [Value.cells] at hcs
    obtain ⟨rfl, rfl, rfl⟩ := hcs
    exact ⟨none, 0, [], rfl, Or.inl rfl, by simp, by simp, by simp⟩
  · simp [Value.cells] at hcs
    obtain ⟨rfl, rfl, rfl⟩ := hcs
    simp only [Prod.mk.injEq] at hx
    obtain ⟨_, hps⟩ := hx
    have hlen : (zs.take len).length = len := by
      rw [List.length_take, hz]
      split <;> omega
    unfold maxLen at hm
    refine ⟨some a, cap, zs.take len, by rw [hlen], ?_, fun n hn => hwz n (List.mem_of_mem_take hn), by omega, by omega⟩
    unfold Ints
    rw [hlen]
    by_cases h0 : len = 0
    · exact Or.inl h0
    · have hzl : len ≤ zs.length := by rw [hz]; split <;> omega
      have h1 := hcell 0 (by omega)
      have hspot : a.spot = none := by
        cases hs : a.spot with
        | none => rfl
        | some s =>
          exfalso
          unfold World.cell? at h1
          simp only [Addr.add, if_true] at h1
          split at h1 <;> simp [hs] at h1
      obtain ⟨b, off, s⟩ := a
      subst hspot
      refine Or.inr ⟨b, off, rfl, ?_, fun j hj => ?_⟩
      · exact hlt (.cell b off) (by rw [hps]; unfold MemPlace.row; simp only [List.mem_map, List.mem_range]; exact ⟨0, by omega, by simp⟩)
      · have := hcell j (by omega)
        have e : (⟨b, off, none⟩ : Addr).add j = ⟨b, off + j, none⟩ := by
          unfold Addr.add
          split
          · rename_i h; subst h; rfl
          · rfl
        rw [e] at this
        rw [this]
        simp only [List.getD_eq_getElem?_getD]
        rw [List.getElem?_take_of_lt (by omega)]


/-- Bytes. -/
theorem nats_of (l : List Int) (h : ∀ n ∈ l, (Lit.int .u8 n).wf = true) : ∃ m : List Nat, l = m.map Int.ofNat ∧ ∀ n ∈ m, n < 256 := by
  refine ⟨l.map Int.toNat, ?_, fun n hn => ?_⟩
  · rw [List.map_map]
    conv => lhs; rw [← List.map_id l]
    apply List.map_congr_left
    intro n hn
    obtain ⟨k, rfl, _⟩ := nat_u8 (h n hn)
    rfl
  · obtain ⟨k, hk, rfl⟩ := List.mem_map.1 hn
    obtain ⟨m, rfl, hm⟩ := nat_u8 (h k hk)
    exact hm
end Go.Proofs.Ytildjnibdappnaa
