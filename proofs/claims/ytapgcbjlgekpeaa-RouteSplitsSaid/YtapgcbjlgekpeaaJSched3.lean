/- Layer 27: who goes on next, and how many are not done: the program's. -/
import Derived.Test.YtapgcbjlgekpeaaJSched2
namespace Go.Proofs.Ytapgcbjlgekpeaa
open Go.ChangeShapes Go.WideShapes Go.ChangeAt Go.RowKit

section
variable {w w' : World} {q : Option Addr} {n : Nat} {bs : Nat → Option Nat} {T : Nat → Toy} {c : Nat} {used : Int}
end
structure Tk.Fine (n : Nat) (T : Nat → Toy) (used : Int) : Prop where
  In : ∀ i, i < n → (T i).In
  ph : ∀ i, i < n → 0 ≤ (T i).phase ∧ (T i).phase ≤ 1000
  u0 : 0 ≤ used
  u1 : used ≤ 100000

section
variable {w : World} {q : Option Addr} {n : Nat} {bs : Nat → Option Nat} {T : Nat → Toy} {c : Nat} {used : Int}
def Tk.open' (T : Nat → Toy) : Nat → Int
  | 0 => 0
  | k + 1 => if (T k).left < 1 then Tk.open' T k else Tk.open' T k + 1
theorem Tk.open_in (T : Nat → Toy) : ∀ k, 0 ≤ Tk.open' T k ∧ Tk.open' T k ≤ k
  | 0 => ⟨Int.le_refl _, Int.le_refl _⟩
  | k + 1 => by
    have := Tk.open_in T k
    unfold Tk.open'
    split <;> omega

end
end Go.Proofs.Ytapgcbjlgekpeaa
