/- Layer 16: the laws, walked: what is told; what falls. -/
import Derived.Test.YtcanbagnehdbiaaJLaws16
namespace Go.Proofs.Ytcanbagnehdbiaa
open Go.ChangeShapes Go.WideShapes Go.ChangeAt Go.RowKit

theorem Pol.bound_in {p : Pol} (h : p.ok = true) (n : Int) : p.mn ≤ p.bound n ∧ p.bound n ≤ p.mx := by
  have hf := Pol.fine h
  unfold Pol.Fine at hf
  unfold Pol.bound Sat.clampTo
  rw [if_pos h]
  split
  · omega
  · split <;> omega
theorem Dec.err_zero {p : Pol} {l : List Samp} (h : Dec.err p l = 0) : p.ok = true ∧ l.length ≠ 0 := by
  unfold Dec.err at h
  split at h
  · rename_i h1
    split at h
    · omega
    · rename_i h2; exact ⟨h1, h2⟩
  · omega
theorem Dec.of_in {p : Pol} {l : List Samp} {past : List Adv} (h : Dec.err p l = 0) : p.mn ≤ (Dec.of p l past).repl ∧ (Dec.of p l past).repl ≤ p.mx := by
  unfold Dec.of
  rw [if_pos h]
  exact Pol.bound_in (Dec.err_zero h).1 _

end Go.Proofs.Ytcanbagnehdbiaa
