/- Slices of structs that came in, with their room. -/
import Derived.Test.YtcanbagnehdbiaaJBase
namespace Go.Proofs.Ytcanbagnehdbiaa
open Go.ChangeShapes Go.WideShapes Go.ChangeAt Go.RowKit Go.Deep

section
variable {H : Type} {enc : TypeId × Value → H} {P : Program} {w : World} {base : Nat} {sp : Nat → Bool} {hd : Bool}
theorem open_RowsC {r : Reach} {b0 : Nat} {t e : TypeId} {fs : Array Field} {k : IntKind} {v : Value} {d : DataW H} {ps : List MemPlace} (ht : P.underlying t = some (.slice e)) (hs : P.underlying e = some (.struct fs)) (hone : oneCellFields P fs = true)
    (hC : P.cellsOf e = fs.size) (hpos : 0 < fs.size) (hk : (fs.toList.map fun f => P.underlying f.type) = List.replicate fs.size (some (.int k))) (hv : Value.okWide P w r b0 t v) (h : DataW.Trod enc P w base sp hd t v d ps) (hlt : ∀ x ∈ ps, x.block < w.heap.size) :
    ∃ (p : Option Addr) (cap : Nat) (l : List (List Int)), v = .slice p l.length cap ∧ Rows k fs.size w p l ∧ (∀ r ∈ l, r.length = fs.size ∧ ∀ a ∈ r, (Lit.int k a).wf = true) ∧ l.length ≤ 9223372036854775807 ∧ l.length ≤ cap := by
  obtain ⟨a0, len0, cap0, rfl⟩ := okWide_slice ht hv
  obtain ⟨fuel, hf⟩ := h
  rcases open_slice ht hf with ⟨hcs, hx⟩ | ⟨a, len, cap, m, n, D, Pl, hcs, _, hl, hm, hmm, hx, hi⟩
  · simp [Value.cells] at hcs
    obtain ⟨rfl, rfl, rfl⟩ := hcs
    exact ⟨none, 0, [], rfl, Or.inl rfl, by simp, by simp, by simp⟩
  · simp [Value.cells] at hcs
    obtain ⟨rfl, rfl, rfl⟩ := hcs
    simp only [Prod.mk.injEq] at hx
    obtain ⟨_, hps⟩ := hx
    unfold maxLen at hm
    have hml : len0 ≤ m := by rw [hmm]; split <;> omega
    have row : ∀ i, i < len0 → ∃ r : List Int, r.length = fs.size ∧ (∀ b ∈ r, (Lit.int k b).wf = true) ∧ ∀ j, j < fs.size → w.cell? (a.add (i * fs.size + j)) = some (.int k (r[j]?.getD 0)) := by
      intro i hil
      obtain ⟨cs', hc, hr⟩ := hi i (by omega)
      rw [hC] at hc
      obtain ⟨l, h1, h2, h3, _⟩ := struct_ints hs hone hC hk hr
      obtain ⟨_, hcl, hat⟩ := World.cells?_some hc
      refine ⟨l, h1, h3, fun j hj => ?_⟩
      have := hat j hj
      rw [add_add] at this
      rw [this, h2]
      simp [List.getElem?_eq_getElem (show j < l.length by omega)]
    have rows : ∃ l : List (List Int), l.length = len0 ∧ ∀ i (hi : i < len0), ∃ r, l[i]? = some r ∧ r.length = fs.size ∧ (∀ b ∈ r, (Lit.int k b).wf = true) ∧ ∀ j, j < fs.size → w.cell? (a.add (i * fs.size + j)) = some (.int k (r[j]?.getD 0)) := by
      refine ⟨(List.range len0).attach.map fun i => (row i.1 (List.mem_range.1 i.2)).choose, by simp, fun i hil => ?_⟩
      refine ⟨_, ?_, (row i hil).choose_spec⟩
      simp [hil]
    obtain ⟨l, hll, hrow⟩ := rows
    refine ⟨some a, cap0, l, by rw [hll], ?_, ?_, by omega, by omega⟩
    · unfold Rows
      rw [hll]
      by_cases h0 : len0 = 0
      · exact Or.inl h0
      · obtain ⟨r0, _, _, _, hc0⟩ := hrow 0 (by omega)
        have h1 := hc0 0 hpos
        have hspot : a.spot = none := by
          cases hsp : a.spot with
          | none => rfl
          | some s =>
            exfalso
            unfold World.cell? at h1
            simp only [Addr.add, Nat.zero_mul, Nat.add_zero, if_true] at h1
            split at h1 <;> simp [hsp] at h1
        obtain ⟨b, off, s⟩ := a
        subst hspot
        have hadd : ∀ z, (⟨b, off, none⟩ : Addr).add z = ⟨b, off + z, none⟩ := by
          intro z
          unfold Addr.add
          split
          · rename_i h; subst h; rfl
          · rfl
        refine Or.inr ⟨b, off, rfl, ?_, fun j hj => ?_⟩
        · refine hlt (.cell b off) ?_
          rw [hps, List.mem_append]
          left
          unfold MemPlace.row
          simp only [List.mem_map, List.mem_range]
          refine ⟨0, ?_, by simp⟩
          rw [hC]
          exact Nat.mul_pos (by omega) hpos
        · have hq : j / fs.size < len0 := Nat.div_lt_of_lt_mul (by rw [Nat.mul_comm]; exact hj)
          obtain ⟨r, hr1, _, _, hr4⟩ := hrow (j / fs.size) hq
          have := hr4 (j % fs.size) (Nat.mod_lt _ hpos)
          rw [hadd, Nat.div_add_mod'] at this
          show _ = some (Value.int k ((l[j / fs.size]?.getD [])[j % fs.size]?.getD 0))
          rw [this, hr1]
          rfl
    · intro r hr
      obtain ⟨i, hil, rfl⟩ := List.mem_iff_getElem.1 hr
      obtain ⟨r', h1, h2, h3, _⟩ := hrow i (by omega)
      rw [List.getElem?_eq_getElem hil] at h1
      simp only [Option.some.injEq] at h1
      rw [h1]
      exact ⟨h2, h3⟩
end
end Go.Proofs.Ytcanbagnehdbiaa
