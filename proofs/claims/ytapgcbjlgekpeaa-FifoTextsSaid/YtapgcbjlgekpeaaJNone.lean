/- A slice that came in without a place is empty. -/
import Derived.Test.YtapgcbjlgekpeaaJBase
import Derived.Deep.Slices
namespace Go.Proofs.Ytapgcbjlgekpeaa
open Go.ChangeShapes Go.WideShapes Go.ChangeAt Go.RowKit Go.Deep

theorem trod_slice_none {H : Type} {enc : TypeId × Value → H} {P : Program} {w : World} {base : Nat} {sp : Nat → Bool} {hd : Bool} {t e : TypeId} {p : Option Addr} {n c : Nat} {d : DataW H} {ps : List MemPlace}
    (ht : P.underlying t = some (.slice e)) (h : DataW.Trod enc P w base sp hd t (.slice p n c) d ps) : p = none → n = 0 ∧ c = 0 := by
  obtain ⟨fuel, hf⟩ := h
  intro hp
  subst hp
  rcases open_slice ht hf with ⟨hcs, _⟩ | ⟨a, len, cap, m, n', D, Pl, hcs, _⟩
  · simpa [Value.cells] using hcs
  · simp [Value.cells] at hcs
end Go.Proofs.Ytapgcbjlgekpeaa
