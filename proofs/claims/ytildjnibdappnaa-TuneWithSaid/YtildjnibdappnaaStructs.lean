/- Arguments that are structs of whole numbers, and slices of such; opened. -/
import Derived.Test.YtildjnibdappnaaOpen
import Derived.Deep.Slices
import Derived.Deep.Fields
namespace Go.Proofs.Ytildjnibdappnaa
open Go.ChangeShapes Go.WideShapes Go.ChangeAt Go.RowKit Go.Deep

section
variable {H : Type} {enc : TypeId × Value → H} {P : Program} {w : World} {base : Nat} {sp : Nat → Bool} {hd : Bool}

theorem struct_ints {t : TypeId} {fs : Array Field} {k : IntKind} {fuel : Nat} {cs : List Value} {x : DataW H × List MemPlace} (hs : P.underlying t = some (.struct fs)) (hone : oneCellFields P fs = true) (hC : P.cellsOf t = fs.size)
    (hk : (fs.toList.map fun f => P.underlying f.type) = List.replicate fs.size (some (.int k))) (h : DataW.trod enc P w base sp hd fuel t cs = some x) :
    ∃ l : List Int, l.length = fs.size ∧ cs = l.map (Value.int k) ∧ (∀ a ∈ l, (Lit.int k a).wf = true) ∧ x.2 = [] := by
  obtain ⟨xs, n, _, rfl, hl, hlen, hf⟩ := DataW.trod_struct hs h
  have hcl : cs.length = fs.size := hl.trans hC
  have key : ∀ j (hj : j < fs.size), ∃ a, cs[j]? = some (Value.int k a) ∧ (Lit.int k a).wf = true ∧ ∀ y, xs[j]? = some y → y.2 = [] := by
    intro j hj
    have hfj : fs[j]? = some fs[j] := Array.getElem?_eq_getElem hj
    obtain ⟨ho, h1⟩ := hone_of hone j _ hfj
    have hkj : P.underlying fs[j].type = some (.int k) := by
      have := congrArg (fun l : List (Option TypeDesc) => l[j]?) hk
      simpa [hj] using this
    have hg := hf j _ hfj
    have hxs : xs[j]? = some (xs[j]'(by omega)) := List.getElem?_eq_getElem (by omega)
    rw [ho, h1, List.drop_eq_getElem_cons (by omega), hxs] at hg
    obtain ⟨a, e1, e2, e3⟩ := DataW.trod_int hkj hg
    simp only [List.take_succ_cons, List.take_zero, List.cons.injEq, and_true] at e1
    refine ⟨a, by rw [List.getElem?_eq_getElem (by omega), e1], e3, fun y hy => ?_⟩
    rw [hxs] at hy
    cases hy
    rw [e2]
  refine ⟨cs.map fun v => match v with | .int _ a => a | _ => 0, by simp [hcl], ?_, ?_, ?_⟩
  · apply List.ext_getElem?
    intro j
    by_cases hj : j < fs.size
    · obtain ⟨a, h1, _⟩ := key j hj
      simp [h1]
    · rw [List.getElem?_eq_none (by omega), List.getElem?_eq_none (by simp; omega)]
  · intro a ha
    obtain ⟨v, hv, rfl⟩ := List.mem_map.1 ha
    obtain ⟨j, hj, rfl⟩ := List.mem_iff_getElem.1 hv
    obtain ⟨b, h1, h2, _⟩ := key j (by omega)
    rw [List.getElem?_eq_getElem hj] at h1
    simp only [Option.some.injEq] at h1
    rw [h1]
    exact h2
  · simp only [List.flatMap_eq_nil_iff]
    intro y hy
    obtain ⟨j, hj, rfl⟩ := List.mem_iff_getElem.1 hy
    obtain ⟨_, _, _, h3⟩ := key j (by omega)
    exact h3 _ (List.getElem?_eq_getElem hj)

/-- A struct of whole numbers of one kind. -/
theorem open_ints_struct {r : Reach} {b0 : Nat} {t : TypeId} {fs : Array Field} {k : IntKind} {v : Value} {d : DataW H} {ps : List MemPlace} (hs : P.underlying t = some (.struct fs)) (hone : oneCellFields P fs = true) (hC : P.cellsOf t = fs.size)
    (hk : (fs.toList.map fun f => P.underlying f.type) = List.replicate fs.size (some (.int k))) (hv : Value.okWide P w r b0 t v) (h : DataW.Trod enc P w base sp hd t v d ps) :
    ∃ l : List Int, l.length = fs.size ∧ v = .agg (l.map (Value.int k)).toArray ∧ (∀ a ∈ l, (Lit.int k a).wf = true) ∧ ps = [] := by
  obtain ⟨cs, rfl, hsz⟩ := okWide_struct hs hv
  obtain ⟨fuel, hf⟩ := h
  obtain ⟨l, h1, h2, h3, h4⟩ := struct_ints hs hone hC hk hf
  refine ⟨l, h1, ?_, h3, h4⟩
  rw [← h2]
  simp [Value.cells]

/-- A slice of structs of n whole numbers, that lies in memory. -/
def Rows (k : IntKind) (n : Nat) (w : World) (p : Option Addr) (l : List (List Int)) : Prop := Sl w p l.length n (fun j => .int k ((l[j / n]?.getD [])[j % n]?.getD 0))

theorem open_Rows {r : Reach} {b0 : Nat} {t e : TypeId} {fs : Array Field} {k : IntKind} {v : Value} {d : DataW H} {ps : List MemPlace} (ht : P.underlying t = some (.slice e)) (hs : P.underlying e = some (.struct fs)) (hone : oneCellFields P fs = true)
    (hC : P.cellsOf e = fs.size) (hpos : 0 < fs.size) (hk : (fs.toList.map fun f => P.underlying f.type) = List.replicate fs.size (some (.int k))) (hv : Value.okWide P w r b0 t v) (h : DataW.Trod enc P w base sp hd t v d ps) (hlt : ∀ x ∈ ps, x.block < w.heap.size) :
    ∃ (p : Option Addr) (cap : Nat) (l : List (List Int)), v = .slice p l.length cap ∧ Rows k fs.size w p l ∧ (∀ r ∈ l, r.length = fs.size ∧ ∀ a ∈ r, (Lit.int k a).wf = true) ∧ l.length ≤ 9223372036854775807 := by
  obtain ⟨a0, len0, cap0, rfl⟩ := okWide_slice ht hv
  obtain ⟨fuel, hf⟩ := h
  rcases open_slice ht hf with ⟨hcs, hx⟩ | ⟨a, len, cap, m, n, D, Pl, hcs, _, hl, hm, hmm, hx, hi⟩
  · simp [Value.cells] at hcs
    obtain ⟨rfl, rfl, rfl⟩ := hcs
    exact ⟨none, 0, [], rfl, Or.inl rfl, by simp, by simp⟩
  · simp [Value.cells] at hcs
    obtain ⟨rfl, rfl, rfl⟩ := hcs
    simp only [Prod.mk.injEq] at hx
    obtain ⟨_, hps⟩ := hx
    unfold maxLen at hm
    have hml : len0 ≤ m := by rw [hmm]; split <;> omega
    have row : ∀ i, i < len0 → ∃ r : List Int, r.length = fs.size ∧ (∀ b ∈ r, (Lit.int k b).wf = true) ∧ ∀ j, j < fs.size → w.cell? (a.add (i * fs.size + j)) = some (.int k (r[j]?.getD 0)) := by
      intro i hil
      obtain ⟨cs', hc, hr⟩ := hi i (by omega)
      rw [hC] at hc
      obtain ⟨l, h1, h2, h3, _⟩ := struct_ints hs hone hC hk hr
      obtain ⟨_, hcl, hat⟩ := World.cells?_some hc
      refine ⟨l, h1, h3, fun j hj => ?_⟩
      have := hat j hj
      rw [add_add] at this
      rw [this, h2]
      simp [List.getElem?_eq_getElem (show j < l.length by omega)]
    have rows : ∃ l : List (List Int), l.length = len0 ∧ ∀ i (hi : i < len0), ∃ r, l[i]? = some r ∧ r.length = fs.size ∧ (∀ b ∈ r, (Lit.int k b).wf = true) ∧ ∀ j, j < fs.size → w.cell? (a.add (i * fs.size + j)) = some (.int k (r[j]?.getD 0)) := by
      refine ⟨(List.range len0).attach.map fun i => (row i.1 (List.mem_range.1 i.2)).choose, by simp, fun i hil => ?_⟩
      refine ⟨_, ?_, (row i hil).choose_spec⟩
      simp [hil]
    obtain ⟨l, hll, hrow⟩ := rows
    refine ⟨some a, cap0, l, by rw [hll], ?_, ?_, by omega⟩
    · unfold Rows
      rw [hll]
      by_cases h0 : len0 = 0
      · exact Or.inl h0
      · obtain ⟨r0, _, _, _, hc0⟩ := hrow 0 (by omega)
        have h1 := hc0 0 hpos
        have hspot : a.spot = none := by
          cases hsp : a.spot with
          | none => rfl
          | some s =>
            exfalso
            unfold World.cell? at h1
            simp only [Addr.add, Nat.zero_mul, Nat.add_zero, if_true] at h1
            split at h1 <;> simp [hsp] at h1
        obtain ⟨b, off, s⟩ := a
        subst hspot
        have hadd : ∀ z, (⟨b, off, none⟩ : Addr).add z = ⟨b, off + z, none⟩ := by
          intro z
          unfold Addr.add
          split
          · rename_i h; subst h; rfl
          · rfl
        refine Or.inr ⟨b, off, rfl, ?_, fun j hj => ?_⟩
        · refine hlt (.cell b off) ?_
          rw [hps, List.mem_append]
          left
          unfold MemPlace.row
          simp only [List.mem_map, List.mem_range]
          refine ⟨0, ?_, by simp⟩
          rw [hC]
          exact Nat.mul_pos (by omega) hpos
        · have hq : j / fs.size < len0 := Nat.div_lt_of_lt_mul (by rw [Nat.mul_comm]; exact hj)
          obtain ⟨r, hr1, _, _, hr4⟩ := hrow (j / fs.size) hq
          have := hr4 (j % fs.size) (Nat.mod_lt _ hpos)
          rw [hadd, Nat.div_add_mod'] at this
          show _ = some (Value.int k ((l[j / fs.size]?.getD [])[j % fs.size]?.getD 0))
          rw [this, hr1]
          rfl
    · intro r hr
      obtain ⟨i, hil, rfl⟩ := List.mem_iff_getElem.1 hr
      obtain ⟨r', h1, h2, h3, _⟩ := hrow i (by omega)
      rw [List.getElem?_eq_getElem hil] at h1
      simp only [Option.some.injEq] at h1
      rw [h1]
      exact ⟨h2, h3⟩
end
end Go.Proofs.Ytildjnibdappnaa
