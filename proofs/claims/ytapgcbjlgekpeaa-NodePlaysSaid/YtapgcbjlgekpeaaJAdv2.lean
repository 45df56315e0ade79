/- Changes, turns, streaks of decisions (layers 14, 15). -/
import Derived.Test.YtapgcbjlgekpeaaJBase
import Derived.Test.YtapgcbjlgekpeaaJPol
namespace Go.Proofs.Ytapgcbjlgekpeaa
open Go.ChangeShapes Go.WideShapes Go.ChangeAt Go.RowKit

/-- The replicas of the decision in a place. -/
def Adv.rep (l : List Adv) (j : Nat) : Int := (l[j]?.getD default).repl

theorem Advs.rep {w : World} {p : Option Addr} {l : List Adv} (h : Advs w p l) (k : Nat) (hk : k < l.length) :
    ∃ b off, p = some ⟨b, off, none⟩ ∧ b < w.heap.size ∧ ∀ j, j < l.length → w.cell? ⟨b, off + j * 5 + 3, none⟩ = some (.int .i64 (Adv.rep l j)) := by
  obtain ⟨b, off, hp, hb, _⟩ := h.cells k hk
  refine ⟨b, off, hp, hb, fun j hj => ?_⟩
  obtain ⟨b', off', hp', _, _, _, _, c3, _⟩ := h.cells j hj
  rw [hp] at hp'
  cases hp'
  exact c3

/-- How often neighbours differ. -/
def Adv.changes (g : Nat → Int) : Nat → Nat
  | 0 => 0
  | k + 1 => if k = 0 then 0 else Adv.changes g k + if g k = g (k - 1) then 0 else 1
theorem Adv.changes_one (g : Nat → Int) : Adv.changes g 1 = 0 := rfl
theorem Adv.changes_same {g : Nat → Int} {k : Nat} (hk : 1 ≤ k) (h : g k = g (k - 1)) : Adv.changes g (k + 1) = Adv.changes g k := by
  rw [Adv.changes, if_neg (by omega), if_pos h]; rfl
theorem Adv.changes_more {g : Nat → Int} {k : Nat} (hk : 1 ≤ k) (h : ¬ g k = g (k - 1)) : Adv.changes g (k + 1) = Adv.changes g k + 1 := by
  rw [Adv.changes, if_neg (by omega), if_neg h]
theorem Adv.changes_le (g : Nat → Int) : ∀ k, Adv.changes g k ≤ k
  | 0 => Nat.le_refl _
  | k + 1 => by
    unfold Adv.changes
    have := Adv.changes_le g k
    split
    · omega
    · split <;> omega

def Adv.sgn (a b : Int) : Int := if a < b then -1 else if b < a then 1 else 0
/-- How often, and which way last. -/
def Adv.turns (g : Nat → Int) : Nat → Nat × Int
  | 0 => (0, 0)
  | k + 1 => if k = 0 then (0, 0) else if g k = g (k - 1) then Adv.turns g k else (if Adv.sgn (g k) (g (k - 1)) = -(Adv.turns g k).2 then (Adv.turns g k).1 + 1 else (Adv.turns g k).1, Adv.sgn (g k) (g (k - 1)))
theorem Adv.turns_same {g : Nat → Int} {k : Nat} (hk : 1 ≤ k) (h : g k = g (k - 1)) : Adv.turns g (k + 1) = Adv.turns g k := by
  rw [Adv.turns, if_neg (by omega), if_pos h]
theorem Adv.turns_more {g : Nat → Int} {k : Nat} (hk : 1 ≤ k) (h : ¬ g k = g (k - 1)) : Adv.turns g (k + 1) = (if Adv.sgn (g k) (g (k - 1)) = -(Adv.turns g k).2 then (Adv.turns g k).1 + 1 else (Adv.turns g k).1, Adv.sgn (g k) (g (k - 1))) := by
  rw [Adv.turns, if_neg (by omega), if_neg h]
theorem Adv.sgn_cases {a b : Int} (h : ¬ a = b) : (a < b ∧ Adv.sgn a b = -1) ∨ (b < a ∧ Adv.sgn a b = 1) := by
  unfold Adv.sgn
  by_cases h1 : a < b
  · left; exact ⟨h1, if_pos h1⟩
  · right; refine ⟨by omega, ?_⟩; rw [if_neg h1, if_pos (by omega)]
/-- There are fewer turns than changes, where there are changes. -/
theorem Adv.turns_changes (g : Nat → Int) : ∀ k, ((Adv.turns g k).2 = 0 ∧ (Adv.turns g k).1 = 0 ∧ Adv.changes g k = 0) ∨ (((Adv.turns g k).2 = 1 ∨ (Adv.turns g k).2 = -1) ∧ (Adv.turns g k).1 + 1 ≤ Adv.changes g k)
  | 0 => .inl ⟨rfl, rfl, rfl⟩
  | k + 1 => by
    by_cases h0 : k = 0
    · subst h0; exact .inl ⟨rfl, rfl, rfl⟩
    · have ih := Adv.turns_changes g k
      by_cases h : g k = g (k - 1)
      · rw [Adv.turns_same (by omega) h, Adv.changes_same (by omega) h]; exact ih
      · rw [Adv.turns_more (by omega) h, Adv.changes_more (by omega) h]
        right
        rcases Adv.sgn_cases h with ⟨_, hs⟩ | ⟨_, hs⟩
        · rw [hs]
          refine ⟨.inr rfl, ?_⟩
          simp only
          rcases ih with ⟨i1, i2, i3⟩ | ⟨i1, i2⟩
          · rw [i1, i2, i3]; simp
          · split <;> omega
        · rw [hs]
          refine ⟨.inl rfl, ?_⟩
          simp only
          rcases ih with ⟨i1, i2, i3⟩ | ⟨i1, i2⟩
          · rw [i1, i2, i3]; simp
          · split <;> omega
theorem Adv.turns_le (g : Nat → Int) (k : Nat) : (Adv.turns g k).1 ≤ k := by
  have h1 := Adv.turns_changes g k
  have h2 := Adv.changes_le g k
  omega

/-- How many at the end are alike. -/
def Adv.streak (g : Nat → Int) (n : Nat) : Nat → Nat → Nat
  | 0, k => k
  | f + 1, k => if k < n ∧ g (n - 1 - k) = g (n - 1) then Adv.streak g n f (k + 1) else k
theorem Adv.streak_stop {g : Nat → Int} {n f k : Nat} (h : ¬ (k < n ∧ g (n - 1 - k) = g (n - 1))) : Adv.streak g n f k = k := by
  cases f with
  | zero => rfl
  | succ f => rw [Adv.streak, if_neg h]
theorem Adv.streak_more {g : Nat → Int} {n f k : Nat} (h : k < n ∧ g (n - 1 - k) = g (n - 1)) : Adv.streak g n (f + 1) k = Adv.streak g n f (k + 1) := by rw [Adv.streak, if_pos h]
theorem Adv.streak_le (g : Nat → Int) (n : Nat) : ∀ f k, k ≤ n → Adv.streak g n f k ≤ n
  | 0, k, h => h
  | f + 1, k, h => by
    rw [Adv.streak]
    split
    · rename_i hk; exact Adv.streak_le g n f (k + 1) (by omega)
    · exact h

end Go.Proofs.Ytapgcbjlgekpeaa
