/- The most that was wanted, by the reference; what is held (layers 14, 15). -/
import Derived.Test.YtapgcbjlgekpeaaJAdv3
namespace Go.Proofs.Ytapgcbjlgekpeaa
open Go.ChangeShapes Go.WideShapes Go.ChangeAt Go.RowKit

theorem Adv.streak_le' (g : Nat → Int) (n : Nat) : Adv.streak g n n 0 ≤ n := Adv.streak_le g n n 0 (by omega)

def Adv.settled (l : List Adv) (m : Int) : Bool := decide (0 < l.length ∧ m ≤ (Adv.streak (Adv.rep l) l.length l.length 0 : Nat))

/-- What is held. -/
def Adv.held (p : Pol) (tick want : Int) (l : List Adv) : Int × Bool :=
  if (Adv.highest l (Sat.clamp (tick - p.ho)) tick).2 = true ∧ want < (Adv.highest l (Sat.clamp (tick - p.ho)) tick).1 then ((Adv.highest l (Sat.clamp (tick - p.ho)) tick).1, true) else (want, false)
theorem Adv.held_spec (p : Pol) (tick want : Int) (l : List Adv) : want ≤ (Adv.held p tick want l).1 ∧ (Adv.held p tick want l).2 = decide (want < (Adv.held p tick want l).1) := by
  unfold Adv.held
  split
  · rename_i h; exact ⟨by simp only; omega, (decide_eq_true h.2).symm⟩
  · exact ⟨by simp only; omega, (decide_eq_false (by simp only; omega)).symm⟩

end Go.Proofs.Ytapgcbjlgekpeaa
