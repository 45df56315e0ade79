/- A world in which some blocks of the call's own stand: all that a walk carries from call to call. -/
import Derived.Test.YtildjnibdappnaaMem
namespace Go.Proofs.Ytildjnibdappnaa
open Go.ChangeShapes Go.WideShapes Go.ChangeAt Go.RowKit

/-- w' is w below w's size; the blocks of the list, from w's size on, hold what it says. -/
structure Mem (w w' : World) (bs : List (Nat × Obj)) : Prop where
  below : Below w.heap.size w w'
  has : ∀ (i b : Nat) (o : Obj), bs[i]? = some (b, o) → w'.heap[b]? = some o
  apart : ∀ (i j b : Nat) (o o' : Obj), bs[i]? = some (b, o) → bs[j]? = some (b, o') → i = j
  own : ∀ (i b : Nat) (o : Obj), bs[i]? = some (b, o) → w.heap.size ≤ b

section
variable {w w' w'' : World} {bs : List (Nat × Obj)}
theorem Mem.start (w : World) : Mem w w [] := ⟨Below.refl _ _, fun _ _ _ h => by simp at h, fun _ _ _ _ _ h => by simp at h, fun _ _ _ h => by simp at h⟩
theorem Mem.call (h : Mem w w' bs) (hb : Below w'.heap.size w' w'') : Mem w w'' bs :=
  ⟨h.below.trans (hb.mono h.below.size), fun i b o hi => (hb.block _ (lt_of_heap (h.has i b o hi))).trans (h.has i b o hi), h.apart, h.own⟩
theorem Mem.lt (h : Mem w w' bs) {i b : Nat} {o : Obj} (hi : bs[i]? = some (b, o)) : b < w'.heap.size := lt_of_heap (h.has i b o hi)
theorem Mem.alloc (h : Mem w w' bs) (o : Obj) : Mem w (w'.alloc o) (bs ++ [(w'.heap.size, o)]) := by
  refine ⟨h.below.alloc h.below.size o, ?_, ?_, ?_⟩
  · intro i b o' hi
    rw [List.getElem?_append] at hi
    split at hi
    · exact (heap_alloc_past _ _ _ (h.lt hi)).trans (h.has _ _ _ hi)
    · obtain ⟨h1, h2⟩ : b = w'.heap.size ∧ o' = o := by
        cases hk : i - bs.length with
        | zero => rw [hk] at hi; simp at hi; exact ⟨hi.1.symm, hi.2.symm⟩
        | succ k => rw [hk] at hi; simp at hi
      subst h1 h2
      exact heap_alloc_at _ _ _ rfl
  · intro i j b o1 o2 hi hj
    rw [List.getElem?_append] at hi hj
    split at hi <;> split at hj
    · exact h.apart _ _ _ _ _ hi hj
    · exfalso
      have := h.lt hi
      cases hk : j - bs.length with
      | zero => rw [hk] at hj; simp at hj; omega
      | succ k => rw [hk] at hj; simp at hj
    · exfalso
      have := h.lt hj
      cases hk : i - bs.length with
      | zero => rw [hk] at hi; simp at hi; omega
      | succ k => rw [hk] at hi; simp at hi
    · cases hk : i - bs.length with
      | zero => cases hl : j - bs.length with
        | zero => omega
        | succ k => rw [hl] at hj; simp at hj
      | succ k => rw [hk] at hi; simp at hi
  · intro i b o' hi
    rw [List.getElem?_append] at hi
    split at hi
    · exact h.own _ _ _ hi
    · cases hk : i - bs.length with
      | zero => rw [hk] at hi; simp at hi; have := h.below.size; omega
      | succ k => rw [hk] at hi; simp at hi
theorem Mem.allocAs (h : Mem w w' bs) (n : Nat) (o : Obj) (hn : w'.heap.size = n) : Mem w (w'.alloc o) (bs ++ [(n, o)]) := by subst hn; exact h.alloc o
theorem Mem.heap (h : Mem w w' bs) (i : Nat) {b : Nat} {o : Obj} (hi : bs[i]? = some (b, o)) : w'.heap[b]? = some o := h.has i b o hi
theorem Mem.cell (h : Mem w w' bs) (i j : Nat) {b : Nat} {cs : Array Value} {t : TypeId} {fr : Nat × Nat} {v : Value} (hi : bs[i]? = some (b, .cells cs t fr)) (hv : cs[j]? = some v) : w'.cell? ⟨b, j, none⟩ = some v := by
  rw [cell_of_row _ _ _ _ _ _ (h.has _ _ _ hi)]; exact hv
theorem Mem.free (h : Mem w w' bs) (i j : Nat) {b : Nat} {cs : Array Value} {t : TypeId} (hi : bs[i]? = some (b, .cells cs t (0, 0))) : w'.frozen? ⟨b, j, none⟩ = false := frozen_of_row _ _ _ _ _ (h.has _ _ _ hi)
theorem Mem.turn (h : Mem w w' bs) (i : Nat) {b : Nat} {o o' : Obj} (hi : bs[i]? = some (b, o)) (hB : Below w.heap.size w w'') (h1 : w''.heap[b]? = some o') (h2 : ∀ k, k ≠ b → w''.heap[k]? = w'.heap[k]?) : Mem w w'' (bs.set i (b, o')) := by
  have hil : i < bs.length := (List.getElem?_eq_some_iff.1 hi).1
  have key : ∀ (k c : Nat) (x : Obj), (bs.set i (b, o'))[k]? = some (c, x) → (k = i ∧ c = b ∧ x = o') ∨ (k ≠ i ∧ bs[k]? = some (c, x)) := by
    intro k c x hk
    rw [List.getElem?_set] at hk
    split at hk
    · rename_i e
      simp at hk
      exact .inl ⟨e.symm, hk.1.symm, hk.2.symm⟩
    · rename_i e
      exact .inr ⟨fun h => e h.symm, hk⟩
  refine ⟨hB, ?_, ?_, ?_⟩
  · intro k c x hk
    rcases key k c x hk with ⟨_, rfl, rfl⟩ | ⟨hne, hk2⟩
    · exact h1
    · rw [h2 c (fun e => hne (by subst e; exact h.apart _ _ _ _ _ hk2 hi))]
      exact h.has _ _ _ hk2
  · intro k l c x y hk hl
    rcases key k c x hk with ⟨e1, e2, _⟩ | ⟨hne, hk2⟩ <;> rcases key l c y hl with ⟨h3, h4, _⟩ | ⟨hne2, hl2⟩
    · rw [e1, h3]
    · rw [e1]; rw [e2] at hl2; exact h.apart _ _ _ _ _ hi hl2
    · rw [h3]; rw [h4] at hk2; exact h.apart _ _ _ _ _ hk2 hi
    · exact h.apart _ _ _ _ _ hk2 hl2
  · intro k c x hk
    rcases key k c x hk with ⟨_, rfl, _⟩ | ⟨_, hk⟩
    · exact h.own _ _ _ hi
    · exact h.own _ _ _ hk
theorem Mem.setRow (h : Mem w w' bs) (i : Nat) {b : Nat} {old cs : Array Value} {t : TypeId} {fr : Nat × Nat} (hi : bs[i]? = some (b, .cells old t fr)) : Mem w (w'.setRow b cs) (bs.set i (b, .cells cs t fr)) :=
  h.turn i hi (below_setRow h.below (h.own _ _ _ hi) cs) (setRow_heap _ _ _ _ _ _ (h.has _ _ _ hi)) (fun k hk => setRow_other w' b k cs hk)
theorem Mem.setCell (h : Mem w w' bs) (i j : Nat) (v : Value) {b : Nat} {cs : Array Value} {t : TypeId} (hi : bs[i]? = some (b, .cells cs t (0, 0))) : Mem w (w'.setCell ⟨b, j, none⟩ v) (bs.set i (b, .cells (cs.setIfInBounds j v) t (0, 0))) :=
  h.turn i hi (h.below.setCell (h.own _ _ _ hi) v) (heap_setCell_same _ _ _ _ _ _ (h.has _ _ _ hi)) (fun k hk => Below.heap_setCell _ _ _ _ (by simpa using hk))
theorem Mem.drewN (h : Mem w w' bs) (n : Nat) : Mem w (w'.drewN n) bs := ⟨below_drewN h.below n, h.has, h.apart, h.own⟩
theorem Mem.init {cs : List (Nat × Obj)} (h : Mem w w' (bs ++ cs)) : Mem w w' bs := by
  have hh : ∀ (i b : Nat) (o : Obj), bs[i]? = some (b, o) → (bs ++ cs)[i]? = some (b, o) := fun i b o hi => by
    rw [List.getElem?_append_left (List.getElem?_eq_some_iff.1 hi).1]; exact hi
  exact ⟨h.below, fun i b o hi => h.has i b o (hh _ _ _ hi), fun i j b o o' hi hj => h.apart i j b o o' (hh _ _ _ hi) (hh _ _ _ hj), fun i b o hi => h.own i b o (hh _ _ _ hi)⟩
/-- Fewer blocks told. -/
theorem Mem.drop (h : Mem w w' bs) : Mem w w' [] := ⟨h.below, fun _ _ _ h => by simp at h, fun _ _ _ _ _ h => by simp at h, fun _ _ _ h => by simp at h⟩
end
end Go.Proofs.Ytildjnibdappnaa
