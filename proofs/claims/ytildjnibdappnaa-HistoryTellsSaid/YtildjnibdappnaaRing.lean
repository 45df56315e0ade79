/- Layer 7: a ring of ints, by what it has in order. -/
import Derived.Test.YtildjnibdappnaaRingI4
import Derived.Test.YtildjnibdappnaaRef07
namespace Go.Proofs.Ytildjnibdappnaa
open Go.ChangeShapes Go.WideShapes Go.ChangeAt Go.RowKit

theorem rot_zero {α : Type} (l : List α) : rot 0 l = l := by simp [rot]
theorem rot_len {α : Type} (f : Nat) (l : List α) : (rot f l).length = l.length := by simp [rot]; omega
theorem rot_map {α β : Type} (g : α → β) (f : Nat) (l : List α) : rot f (l.map g) = (rot f l).map g := by simp [rot]
theorem rot_head {α : Type} [Inhabited α] (f : Nat) (l : List α) (h : f < l.length) : (rot f l)[0]? = l[f]? := by
  unfold rot
  rw [List.getElem?_append_left (by rw [List.length_drop]; omega), List.getElem?_drop]
  rfl
theorem rot_push {α : Type} (f : Nat) (l : List α) (x : α) (h : f < l.length) : rot ((f + 1) % l.length) (l.set f x) = (rot f l).drop 1 ++ [x] := by
  have hset : l.set f x = l.take f ++ x :: l.drop (f + 1) := List.set_eq_take_append_cons_drop .. |>.trans (by rw [if_pos h])
  have hdr : l.drop f = l[f] :: l.drop (f + 1) := List.drop_eq_getElem_cons h
  have hr : (rot f l).drop 1 = l.drop (f + 1) ++ l.take f := by
    unfold rot
    rw [hdr]
    rfl
  have ht : (l.take f).length = f := by rw [List.length_take]; omega
  rw [hr, hset]
  by_cases h1 : f + 1 = l.length
  · rw [h1, Nat.mod_self, rot_zero]
    rw [List.drop_of_length_le (by omega)]
    simp
  · rw [Nat.mod_eq_of_lt (by omega)]
    unfold rot
    have e1 : (l.take f ++ x :: l.drop (f + 1)).drop (f + 1) = l.drop (f + 1) := by
      rw [show f + 1 = (l.take f).length + 1 by omega, List.drop_append]
      simp [ht]
    have e2 : (l.take f ++ x :: l.drop (f + 1)).take (f + 1) = l.take f ++ [x] := by
      rw [show f + 1 = (l.take f).length + 1 by omega, List.take_append]
      simp [ht]
      rw [List.take_of_length_le (by rw [ht]; omega)]
    rw [e1, e2, List.append_assoc]

def Ring.next {α : Type} (room : Nat) (L : List α) (x : α) : List α := if L.length < room then L ++ [x] else L.drop 1 ++ [x]
theorem Ring.next_last {α : Type} (room : Nat) (h : 1 ≤ room) (l : List α) (x : α) : Ring.next room (lastN room l) x = lastN room (l ++ [x]) := by
  unfold Ring.next
  rw [lastN_len]
  by_cases hl : l.length < room
  · rw [if_pos (by omega), lastN_all (by omega), lastN_all (by simp; omega)]
  · rw [if_neg (by omega)]
    unfold lastN
    rw [List.drop_drop, List.length_append, List.length_singleton, show l.length - room + 1 = l.length + 1 - room by omega, List.drop_append_of_le_length (by omega)]

end Go.Proofs.Ytildjnibdappnaa
