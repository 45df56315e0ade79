/- An argument that is a slice of strings, opened. -/
import Derived.Test.YtapgcbjlgekpeaaJNone
import Derived.Deep.Strs
namespace Go.Proofs.Ytapgcbjlgekpeaa
open Go.ChangeShapes Go.WideShapes Go.ChangeAt Go.RowKit Go.Deep

/-- A slice of strings that lies in memory. -/
def Strs (w : World) (p : Option Addr) (l : List ByteArray) : Prop := Sl w p l.length 1 (fun j => .string (l[j]?.getD ByteArray.empty))
theorem Strs.below {w w' : World} {p : Option Addr} {l : List ByteArray} (h : Strs w p l) (hb : Below w.heap.size w w') : Strs w' p l := Sl.below h hb

theorem open_StrsC {H : Type} {enc : TypeId × Value → H} {P : Program} {w : World} {base : Nat} {sp : Nat → Bool} {hd : Bool} {r : Reach} {b0 : Nat} {t e : TypeId} {v : Value} {d : DataW H} {ps : List MemPlace}
    (ht : P.underlying t = some (.slice e)) (he : P.underlying e = some .string) (hc : P.cellsOf e = 1) (hv : Value.okWide P w r b0 t v) (h : DataW.Trod enc P w base sp hd t v d ps) (hlt : ∀ x ∈ ps, x.block < w.heap.size) :
    ∃ (p : Option Addr) (cap : Nat) (l : List ByteArray), v = .slice p l.length cap ∧ Strs w p l ∧ l.length ≤ 9223372036854775807 ∧ l.length ≤ cap ∧ (p = none → l.length = 0 ∧ cap = 0) := by
  have hno := fun p n c (e : v = .slice p n c) => trod_slice_none (p := p) (n := n) (c := c) ht (e ▸ h)
  obtain ⟨a0, len, cap, rfl⟩ := okWide_slice ht hv
  have hno := hno _ _ _ rfl
  obtain ⟨fuel, hf⟩ := h
  rcases open_strs ht he hc hf with ⟨hcs, hx⟩ | ⟨a, len', cap', m, Sx, hcs, _, hl, hm, hmm, hx, hcell⟩
  · simp [Value.cells] at hcs
    obtain ⟨rfl, rfl, rfl⟩ := hcs
    exact ⟨none, 0, [], rfl, Or.inl rfl, by simp, by simp, by simp⟩
  · simp [Value.cells] at hcs
    obtain ⟨rfl, rfl, rfl⟩ := hcs
    simp only [Prod.mk.injEq] at hx
    obtain ⟨_, hps⟩ := hx
    unfold maxLen at hm
    have hlm : len ≤ m := by rw [hmm]; split <;> omega
    refine ⟨some a, cap, (List.range len).map Sx, by simp, ?_, by simp; omega, by simp; omega, by intro h; cases h⟩
    unfold Strs
    rw [List.length_map, List.length_range]
    by_cases h0 : len = 0
    · exact Or.inl h0
    · have h1 := (hcell 0 (by omega)).1
      have hspot : a.spot = none := by
        cases hs : a.spot with
        | none => rfl
        | some s =>
          exfalso
          unfold World.cell? at h1
          simp only [Addr.add, if_true] at h1
          split at h1 <;> simp [hs] at h1
      obtain ⟨b, off, s⟩ := a
      subst hspot
      refine Or.inr ⟨b, off, rfl, ?_, fun j hj => ?_⟩
      · exact hlt (.cell b off) (by rw [hps]; unfold MemPlace.row; simp only [List.mem_map, List.mem_range]; exact ⟨0, by omega, by simp⟩)
      · have := (hcell j (by omega)).1
        have e : (⟨b, off, none⟩ : Addr).add j = ⟨b, off + j, none⟩ := by
          unfold Addr.add
          split
          · rename_i h; subst h; rfl
          · rfl
        rw [e] at this
        rw [this]
        have hj2 : j < len := by omega
        simp [hj2]
end Go.Proofs.Ytapgcbjlgekpeaa
