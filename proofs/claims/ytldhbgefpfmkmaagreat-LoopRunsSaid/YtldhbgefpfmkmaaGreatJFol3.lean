/- Layer 16: decisions made sample by sample, by the reference. -/
import Derived.Test.YtldhbgefpfmkmaaGreatJFol2
import Derived.Test.YtldhbgefpfmkmaaGreatJLaws14c
namespace Go.Proofs.YtldhbgefpfmkmaaGreat
open Go.ChangeShapes Go.WideShapes Go.ChangeAt Go.RowKit

theorem Samps.turnedF {S : Nat → Prop} {w w' : World} {p : Option Addr} {l : List Samp} (h : Samps w p l) (ht : Turned S w w') (hp : ∀ ad, p = some ad → ¬ S ad.block) : Samps w' p l := by
  rcases h with h0 | ⟨b', off, e, hb, hc⟩
  · exact .inl h0
  · have h1 := ht.block b' hb (hp _ e)
    refine .inr ⟨b', off, e, Nat.lt_of_lt_of_le hb ht.size, fun j hj => ?_⟩
    rw [← hc j hj]
    exact World.cell?_of_block h1
theorem Advs.turnedF {S : Nat → Prop} {w w' : World} {p : Option Addr} {l : List Adv} (h : Advs w p l) (ht : Turned S w w') (hp : ∀ ad, p = some ad → ¬ S ad.block) : Advs w' p l := by
  rcases h with h0 | ⟨b', off, e, hb, hc⟩
  · exact .inl h0
  · have h1 := ht.block b' hb (hp _ e)
    refine .inr ⟨b', off, e, Nat.lt_of_lt_of_le hb ht.size, fun j hj => ?_⟩
    rw [← hc j hj]
    exact World.cell?_of_block h1

end Go.Proofs.YtldhbgefpfmkmaaGreat
