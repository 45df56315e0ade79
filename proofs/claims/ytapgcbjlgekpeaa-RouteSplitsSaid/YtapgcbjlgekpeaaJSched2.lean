/- Layer 27: tasks as data; whose turn it is. -/
import Derived.Test.YtapgcbjlgekpeaaJSched
namespace Go.Proofs.Ytapgcbjlgekpeaa
open Go.ChangeShapes Go.WideShapes Go.ChangeAt Go.RowKit

def Tk.first (pick : Int) (n : Nat) : Int := if n = 0 then -1 else pick % n
/-- The first of the first k places, from one on, that may go on. -/
def Tk.found (n : Nat) (T : Nat → Toy) (used : Int) (at0 : Nat) : Nat → Option Nat
  | 0 => none
  | k + 1 => match Tk.found n T used at0 k with
    | some x => some x
    | none => if Toy.ready (T ((at0 + k) % n)) used = true then some ((at0 + k) % n) else none
def Tk.next (n : Nat) (T : Nat → Toy) (used pick : Int) : Int := match Tk.found n T used (Tk.first pick n).toNat n with | some x => (x : Int) | none => -1
theorem Tk.first_in (pick : Int) {n : Nat} (h : 0 < n) : 0 ≤ Tk.first pick n ∧ Tk.first pick n < n := by
  unfold Tk.first
  rw [if_neg (by omega)]
  exact ⟨Int.emod_nonneg _ (by omega), Int.emod_lt_of_pos _ (by omega)⟩
theorem Tk.found_up {n : Nat} {T : Nat → Toy} {used : Int} {a k x : Nat} (h : Tk.found n T used a k = some x) : ∀ d, Tk.found n T used a (k + d) = some x
  | 0 => h
  | d + 1 => by
    have ih := Tk.found_up h d
    show (match Tk.found n T used a (k + d) with | some x => some x | none => _) = _
    rw [ih]
theorem Tk.found_next {n : Nat} {T : Nat → Toy} {used : Int} {a k : Nat} (h : Tk.found n T used a k = none) : Tk.found n T used a (k + 1) = if Toy.ready (T ((a + k) % n)) used = true then some ((a + k) % n) else none := by
  show (match Tk.found n T used a k with | some x => some x | none => _) = _
  rw [h]
theorem Tk.next_in {n : Nat} {T : Nat → Toy} {used pick : Int} (h : ¬ Tk.next n T used pick < 0) : ∃ x : Nat, Tk.next n T used pick = x ∧ x < n ∧ Toy.ready (T x) used = true := by
  have key : ∀ a k x, Tk.found n T used a k = some x → Toy.ready (T x) used = true ∧ (0 < n → x < n) := by
    intro a k
    induction k with
    | zero => intro x hx; exact absurd hx (by simp [Tk.found])
    | succ k ih =>
      intro x hx
      cases hf : Tk.found n T used a k with
      | some y =>
        have : Tk.found n T used a (k + 1) = some y := Tk.found_up hf 1
        rw [this] at hx
        cases hx
        exact ih _ hf
      | none =>
        rw [Tk.found_next hf] at hx
        split at hx
        · rename_i hr
          cases hx
          exact ⟨hr, fun h => Nat.mod_lt _ h⟩
        · cases hx
  unfold Tk.next at h ⊢
  cases hf : Tk.found n T used (Tk.first pick n).toNat n with
  | some x =>
    refine ⟨x, rfl, ?_, (key _ _ _ hf).1⟩
    have hn : 0 < n := by
      rcases Nat.eq_zero_or_pos n with rfl | h0
      · exact absurd hf (by simp [Tk.found])
      · exact h0
    exact (key _ _ _ hf).2 hn
  | none => rw [hf] at h; simp at h

end Go.Proofs.Ytapgcbjlgekpeaa
