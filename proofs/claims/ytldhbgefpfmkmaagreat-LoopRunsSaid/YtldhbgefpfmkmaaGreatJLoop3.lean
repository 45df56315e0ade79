/- Layer 55: all rows in one, and the longest row of rests: the program's. -/
import Derived.Test.YtldhbgefpfmkmaaGreatJLoop2
import Derived.Test.YtldhbgefpfmkmaaGreatJBase
import Derived.BigRegion
namespace Go.Proofs.YtldhbgefpfmkmaaGreat
open Go.ChangeShapes Go.WideShapes Go.ChangeAt Go.RowKit

def Lp.tot (l : List Adv) : Nat → Adv
  | 0 => ⟨0, 0, 0, 0, 0⟩
  | k + 1 => ⟨(l[k]?.getD default).tick, Sat.clamp ((Lp.tot l k).load + (l[k]?.getD default).load), max (Lp.tot l k).want (l[k]?.getD default).want, Sat.clamp ((Lp.tot l k).repl + (l[k]?.getD default).repl), (l[k]?.getD default).why⟩
def Lp.streak (l : List Adv) : Nat → Int
  | 0 => 0
  | k + 1 => if (l[k]?.getD default).why = 0 then 0 else Lp.streak l k + 1
def Lp.long (l : List Adv) : Nat → Int
  | 0 => 0
  | k + 1 => max (Lp.long l k) (Lp.streak l (k + 1))
theorem Lp.streak_in (l : List Adv) : ∀ k, 0 ≤ Lp.streak l k ∧ Lp.streak l k ≤ k
  | 0 => ⟨Int.le_refl _, Int.le_refl _⟩
  | k + 1 => by
    have := Lp.streak_in l k
    unfold Lp.streak
    split <;> omega
theorem Lp.long_in (l : List Adv) : ∀ k, 0 ≤ Lp.long l k ∧ Lp.long l k ≤ k
  | 0 => ⟨Int.le_refl _, Int.le_refl _⟩
  | k + 1 => by
    have h1 := Lp.long_in l k
    have h2 := Lp.streak_in l (k + 1)
    unfold Lp.long
    omega
theorem Lp.tot_in (l : List Adv) (hl : ∀ a ∈ l, a.In) : ∀ k, k ≤ l.length → (Lp.tot l k).In ∧ 0 ≤ (Lp.tot l k).want
  | 0, _ => by
    refine ⟨⟨?_, ?_, ?_, ?_, ?_⟩, ?_⟩ <;> simp [Lp.tot, I64]
  | k + 1, h => by
    have h1 := Lp.tot_in l hl k (by omega)
    have h2 : (l[k]?.getD default).In := by rw [List.getElem?_eq_getElem (by omega)]; exact hl _ (List.getElem_mem _)
    obtain ⟨⟨a1, a2, a3, a4, a5⟩, a6⟩ := h1
    obtain ⟨b1, b2, b3, b4, b5⟩ := h2
    refine ⟨⟨b1, Sat.clamp_in _, ?_, Sat.clamp_in _, b5⟩, ?_⟩
    · show I64 (max _ _); unfold I64 at *; omega
    · show 0 ≤ max _ _; omega

end Go.Proofs.YtldhbgefpfmkmaaGreat
