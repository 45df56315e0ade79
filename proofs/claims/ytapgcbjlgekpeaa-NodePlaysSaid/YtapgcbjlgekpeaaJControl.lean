/- Contracts of layer 13 (control) and of its reference. -/
import Derived.Test.YtapgcbjlgekpeaaJPol
import Derived.Test.YtapgcbjlgekpeaaJWide3
import Derived.Test.YtapgcbjlgekpeaaJBase
import Derived.Test.YtapgcbjlgekpeaaJRef02c
namespace Go.Proofs.Ytapgcbjlgekpeaa
open Go.ChangeShapes Go.WideShapes Go.ChangeAt Go.RowKit

def Pol.want (p : Pol) (load : Int) : Int := if p.ok = true then Sat.ceil (max load 0) p.tg else 0
def Pol.bound (p : Pol) (n : Int) : Int := if p.ok = true then Sat.clampTo n p.mn p.mx else 0

/-- Whether a load is near what so many hold. -/
def Pol.Close (p : Pol) (load now : Int) : Prop := 1 ≤ now ∧ now ≤ 1073741824 ∧ 1000 * max load 0 ≤ 1000 * now * p.tg + p.tl * now * p.tg ∧ 1000 * now * p.tg ≤ 1000 * max load 0 + p.tl * now * p.tg
instance (p : Pol) (load now : Int) : Decidable (p.Close load now) := by unfold Pol.Close; infer_instance
def Pol.near (p : Pol) (load now : Int) : Bool := p.ok && decide (p.Close load now)

theorem Pol.near_out {p : Pol} {load now : Int} (h : p.ok = false ∨ now < 1 ∨ 1073741824 < now) : p.near load now = false := by
  unfold Pol.near
  rcases h with h | h | h
  · rw [h]; rfl
  · rw [show decide (p.Close load now) = false from decide_eq_false (by unfold Pol.Close; omega)]; simp
  · rw [show decide (p.Close load now) = false from decide_eq_false (by unfold Pol.Close; omega)]; simp
theorem Pol.near_in {p : Pol} {load now : Int} (h : p.ok = true) (h1 : 1 ≤ now) (h2 : now ≤ 1073741824) {X Y Z : Nat} (hX : (X : Int) = 1000 * max load 0) (hY : (Y : Int) = 1000 * now * p.tg) (hZ : (Z : Int) = p.tl * now * p.tg) :
    p.near load now = (decide (X ≤ Y + Z) && decide (Y ≤ X + Z)) := by
  unfold Pol.near
  rw [h, Bool.true_and, ← Bool.decide_and]
  apply decide_eq_decide.2
  unfold Pol.Close
  rw [← hX, ← hY, ← hZ]
  omega

theorem Pol.off_bounds (T L n : Nat) (hT : T ≤ 9223372036854775807) (hL : L ≤ 999) (hn : n ≤ 1073741824) : L * n ≤ 1072668082176 ∧ 1000 * n * T < 9903520314283042199192993792000 ∧ L * n * T < 9903520314283042199192993792000 := by
  have h1 : L * n ≤ 999 * 1073741824 := Nat.mul_le_mul hL hn
  have h2 : 1000 * n * T ≤ (1000 * 1073741824) * 9223372036854775807 := Nat.mul_le_mul (by omega) hT
  have h3 : L * n * T ≤ (999 * 1073741824) * 9223372036854775807 := Nat.mul_le_mul h1 hT
  omega

def Pol.raw (p : Pol) (load now : Int) : Int := if p.near load now = true then p.bound now else p.bound (p.want load)

end Go.Proofs.Ytapgcbjlgekpeaa
