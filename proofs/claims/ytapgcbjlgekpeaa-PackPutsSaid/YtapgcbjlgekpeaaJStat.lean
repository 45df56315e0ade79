/- General lemmas of several texts, one after another. -/
import Derived.Test.YtapgcbjlgekpeaaJBase
/- Whether two slices are the same. -/
namespace Go.Proofs.Ytapgcbjlgekpeaa
open Go.ChangeShapes Go.WideShapes Go.ChangeAt Go.RowKit

/-- The same numbers. -/
theorem same_from {a b : List Int} {k : Nat} (hk : k = a.length) (hl : a.length = b.length) (h : ∀ j, j < k → a[j]?.getD 0 = b[j]?.getD 0) : a = b := by
  apply List.ext_getElem hl
  intro i h1 h2
  have := h i (by omega)
  simpa [h1, h2] using this

end Go.Proofs.Ytapgcbjlgekpeaa
