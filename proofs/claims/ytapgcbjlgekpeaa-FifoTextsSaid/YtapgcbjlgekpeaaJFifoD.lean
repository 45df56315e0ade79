/- A queue: a list in a box; where a thing stands in it (layer 23). -/
import Derived.Test.YtapgcbjlgekpeaaJOwnsO
namespace Go.Proofs.Ytapgcbjlgekpeaa
open Go.ChangeShapes Go.WideShapes Go.ChangeAt Go.RowKit

section
variable {α : Type} [DecidableEq α]
def Fi.idx (l : List α) (x : α) : Nat := (l.takeWhile (fun y => decide (x ≠ y))).length
def Fi.place (l : List α) (x : α) : Int := if Fi.idx l x < l.length then (Fi.idx l x : Int) else -1
def Fi.drop (l : List α) (x : α) : List α := if Fi.idx l x < l.length then l.take (Fi.idx l x) ++ l.drop (Fi.idx l x + 1) else l
theorem Fi.idx_le (l : List α) (x : α) : Fi.idx l x ≤ l.length := (List.takeWhile_sublist _).length_le
theorem Fi.idx_ne : ∀ (l : List α) (x : α) (k : Nat), k < Fi.idx l x → l[k]? ≠ some x
  | [], x, k, h => by simp [Fi.idx] at h
  | a :: l, x, k, h => by
    unfold Fi.idx at h
    rw [List.takeWhile_cons] at h
    split at h
    · rename_i ha
      cases k with
      | zero => intro e; simp at e ha; exact ha e.symm
      | succ k => rw [List.getElem?_cons_succ]; exact Fi.idx_ne l x k (by unfold Fi.idx; simpa using h)
    · simp at h
theorem Fi.idx_at : ∀ (l : List α) (x : α), Fi.idx l x < l.length → l[Fi.idx l x]? = some x
  | [], x, h => by simp at h
  | a :: l, x, h => by
    by_cases ha : x = a
    · have e : Fi.idx (a :: l) x = 0 := by unfold Fi.idx; rw [List.takeWhile_cons, if_neg (by simp [ha])]; rfl
      rw [e, ha]
      rfl
    · have e : Fi.idx (a :: l) x = Fi.idx l x + 1 := by unfold Fi.idx; rw [List.takeWhile_cons, if_pos (by simp [ha])]; rfl
      rw [e] at h ⊢
      rw [List.getElem?_cons_succ]
      exact Fi.idx_at l x (by simpa using h)
theorem Fi.idx_of {l : List α} {x : α} {k : Nat} (hk : l[k]? = some x) (h : ∀ j, j < k → l[j]? ≠ some x) : Fi.idx l x = k := by
  have hl : k < l.length := (List.getElem?_eq_some_iff.1 hk).1
  by_cases h1 : Fi.idx l x < k
  · exact absurd (Fi.idx_at l x (by omega)) (h _ h1)
  · by_cases h2 : k < Fi.idx l x
    · exact absurd hk (Fi.idx_ne l x k h2)
    · omega
theorem Fi.idx_end {l : List α} {x : α} (h : ∀ j, j < l.length → l[j]? ≠ some x) : Fi.idx l x = l.length := by
  have := Fi.idx_le l x
  by_cases h1 : Fi.idx l x < l.length
  · exact absurd (Fi.idx_at l x h1) (h _ h1)
  · omega
theorem Fi.place_at {l : List α} {x : α} {k : Nat} (hk : l[k]? = some x) (h : ∀ j, j < k → l[j]? ≠ some x) : Fi.place l x = k := by
  have e := Fi.idx_of hk h
  unfold Fi.place
  rw [e, if_pos (List.getElem?_eq_some_iff.1 hk).1]
theorem Fi.place_none {l : List α} {x : α} (h : ∀ j, j < l.length → l[j]? ≠ some x) : Fi.place l x = -1 := by
  unfold Fi.place
  rw [Fi.idx_end h, if_neg (by omega)]
theorem Fi.place_cases (l : List α) (x : α) : (Fi.idx l x < l.length ∧ Fi.place l x = Fi.idx l x ∧ Fi.drop l x = l.take (Fi.idx l x) ++ l.drop (Fi.idx l x + 1) ∧ x ∈ l) ∨ (Fi.idx l x = l.length ∧ Fi.place l x = -1 ∧ Fi.drop l x = l ∧ x ∉ l) := by
  by_cases h : Fi.idx l x < l.length
  · exact .inl ⟨h, if_pos h, if_pos h, List.mem_of_getElem? (Fi.idx_at l x h)⟩
  · have hle := Fi.idx_le l x
    refine .inr ⟨by omega, if_neg h, if_neg h, fun hm => ?_⟩
    obtain ⟨k, hk⟩ := List.mem_iff_getElem?.1 hm
    exact Fi.idx_ne l x k (by have := (List.getElem?_eq_some_iff.1 hk).1; omega) hk
end

/-- A queue in a cell of a block. -/
structure QAt (w : World) (B sz b o : Nat) (cs : Array Value) (T : TypeId) (v : Value) (n : Nat) (xs : List Value) : Prop where
  row : w.heap[b]? = some (.cells cs T (0, 0))
  item : cs[o]? = some v
  owns : OwnsO w B sz v n xs
  apart : v.ownBlock ≠ some b
section
variable {w w' : World} {B sz b o n : Nat} {cs : Array Value} {T : TypeId} {v : Value} {xs : List Value}
theorem QAt.cell (h : QAt w B sz b o cs T v n xs) : w.cell? ⟨b, o, none⟩ = some v := by rw [cell_of_row _ _ _ _ _ _ h.row]; exact h.item
theorem QAt.free (h : QAt w B sz b o cs T v n xs) : w.frozen? ⟨b, o, none⟩ = false := frozen_of_row _ _ _ _ _ h.row
theorem QAt.lt (h : QAt w B sz b o cs T v n xs) : b < w.heap.size := lt_of_heap h.row
theorem QAt.below (h : QAt w B sz b o cs T v n xs) (hb : Below w.heap.size w w') : QAt w' B sz b o cs T v n xs := ⟨(hb.block _ h.lt).trans h.row, h.item, h.owns.below hb, h.apart⟩
theorem QAt.turned {S : Nat → Prop} (h : QAt w B sz b o cs T v n xs) (ht : Turned S w w') (h1 : ¬ S b) (h2 : ∀ k, v.ownBlock = some k → ¬ S k) : QAt w' B sz b o cs T v n xs := ⟨(ht.block _ h.lt h1).trans h.row, h.item, h.owns.turned ht h2, h.apart⟩
theorem stab_q : Stab (fun w' => QAt w' B sz b o cs T v n xs) := fun _ _ h hb => h.below hb
/-- The queue's cell put anew. -/
theorem QAt.put {u : Value} {m : Nat} {ys : List Value} (hr : w.heap[b]? = some (.cells cs T (0, 0))) (hi : o < cs.size) (ho : OwnsO w B sz u m ys) (ha : u.ownBlock ≠ some b) : QAt (w.setCell ⟨b, o, none⟩ u) B sz b o (cs.setIfInBounds o u) T u m ys :=
  ⟨heap_setCell_same _ _ _ _ _ _ hr, by simp [hi], ho.setOther _ ha, ha⟩
/-- Another cell of the same block put anew. -/
theorem QAt.other {j : Nat} (h : QAt w B sz b o cs T v n xs) (u : Value) (hj : j ≠ o) : QAt (w.setCell ⟨b, j, none⟩ u) B sz b o (cs.setIfInBounds j u) T v n xs :=
  ⟨heap_setCell_same _ _ _ _ _ _ h.row, by rw [Array.getElem?_setIfInBounds_ne hj]; exact h.item, h.owns.setOther _ h.apart, h.apart⟩
theorem QAt.size (h : QAt w B sz b o cs T v n xs) : o < cs.size := (Array.getElem?_eq_some_iff.1 h.item).1
end
/-- What an operation on a queue leaves. -/
def QOf (w : World) (B sz b o : Nat) (cs : Array Value) (T : TypeId) (v : Value) (m : Nat) (ys : List Value) (w' : World) : Prop :=
  ∃ u, QAt w' B sz b o (cs.setIfInBounds o u) T u m ys ∧ Turned (fun k => k = b ∨ v.ownBlock = some k) w w' ∧ (∀ k, u.ownBlock = some k → v.ownBlock = some k ∨ w.heap.size ≤ k)
end Go.Proofs.Ytapgcbjlgekpeaa
