/- Layer 7: a ring of ints, by what it has in order. -/
import Derived.Test.YtjbapfdgkaiehaaRingI4
import Derived.Test.YtjbapfdgkaiehaaRef07
namespace Go.Proofs.Ytjbapfdgkaiehaa
open Go.ChangeShapes Go.WideShapes Go.ChangeAt Go.RowKit

theorem rot_zero {α : Type} (l : List α) : rot 0 l = l := by simp [rot]
theorem rot_len {α : Type} (f : Nat) (l : List α) : (rot f l).length = l.length := by simp [rot]; omega
theorem rot_map {α β : Type} (g : α → β) (f : Nat) (l : List α) : rot f (l.map g) = (rot f l).map g := by simp [rot]
theorem rot_head {α : Type} [Inhabited α] (f : Nat) (l : List α) (h : f < l.length) : (rot f l)[0]? = l[f]? := by
  unfold rot
  rw [List.getElem?_append_left (by rw [List.length_drop]; omega), List.getElem?_drop]
  rfl
theorem rot_push {α : Type} (f : Nat) (l : List α) (x : α) (h : f < l.length) : rot ((f + 1) % l.length) (l.set f x) = (rot f l).drop 1 ++ [x] := by
  have hset : l.set f x = l.take f ++ x :: l.drop (f + 1) := List.set_eq_take_append_cons_drop .. |>.trans (by rw [if_pos h])
  have hdr : l.drop f = l[f] :: l.drop (f + 1) := List.drop_eq_getElem_cons h
  have hr : (rot f l).drop 1 = l.drop (f + 1) ++ l.take f := by
    unfold rot
    rw [hdr]
    rfl
  have ht : (l.take f).length = f := by rw [List.length_take]; omega
  rw [hr, hset]
  by_cases h1 : f + 1 = l.length
  · rw [h1, Nat.mod_self, rot_zero]
    rw [List.drop_of_length_le (by omega)]
    simp
  · rw [Nat.mod_eq_of_lt (by omega)]
    unfold rot
    have e1 : (l.take f ++ x :: l.drop (f + 1)).drop (f + 1) = l.drop (f + 1) := by
      rw [show f + 1 = (l.take f).length + 1 by omega, List.drop_append]
      simp [ht]
    have e2 : (l.take f ++ x :: l.drop (f + 1)).take (f + 1) = l.take f ++ [x] := by
      rw [show f + 1 = (l.take f).length + 1 by omega, List.take_append]
      simp [ht]
      rw [List.take_of_length_le (by rw [ht]; omega)]
    rw [e1, e2, List.append_assoc]

def Ring.next {α : Type} (room : Nat) (L : List α) (x : α) : List α := if L.length < room then L ++ [x] else L.drop 1 ++ [x]
theorem Ring.next_last {α : Type} (room : Nat) (h : 1 ≤ room) (l : List α) (x : α) : Ring.next room (lastN room l) x = lastN room (l ++ [x]) := by
  unfold Ring.next
  rw [lastN_len]
  by_cases hl : l.length < room
  · rw [if_pos (by omega), lastN_all (by omega), lastN_all (by simp; omega)]
  · rw [if_neg (by omega)]
    unfold lastN
    rw [List.drop_drop, List.length_append, List.length_singleton, show l.length - room + 1 = l.length + 1 - room by omega, List.drop_append_of_le_length (by omega)]

/-- A ring of ints that has L, in order. -/
def RingI (w : World) (B r : Nat) (v : Value) (room : Nat) (L : List Int) : Prop :=
  ∃ first ys, RingAt 102 1 w B r v room first L.length (intVals ys) ∧ 1 ≤ room ∧ room ≤ 4096 ∧ L.length ≤ room ∧ (L.length < room → first = 0) ∧ first < room ∧ rot first ys = L
theorem RingI.below {w w' : World} {B r : Nat} {v : Value} {room : Nat} {L : List Int} (h : RingI w B r v room L) (hb : Below w.heap.size w w') : RingI w' B r v room L := by
  obtain ⟨f, ys, h1, h2⟩ := h
  exact ⟨f, ys, h1.below hb, h2⟩
theorem RingI.turned {S : Nat → Prop} {w w' : World} {B r : Nat} {v : Value} {room : Nat} {L : List Int} (h : RingI w B r v room L) (hb : Turned S w w') (h1 : ¬ S r) (h2 : ∀ k, v.ownBlock = some k → ¬ S k) : RingI w' B r v room L := by
  obtain ⟨f, ys, h3, h4⟩ := h
  exact ⟨f, ys, h3.turned hb h1 h2, h4⟩
theorem RingI.lt {w : World} {B r : Nat} {v : Value} {room : Nat} {L : List Int} (h : RingI w B r v room L) : r < w.heap.size ∧ ∀ k, v.ownBlock = some k → k < w.heap.size := by
  obtain ⟨f, ys, h3, h4⟩ := h
  exact ⟨h3.lt, fun k hk => (h3.owns.lt k hk).2⟩
theorem RingI.apart {w : World} {B r : Nat} {v : Value} {room : Nat} {L : List Int} (h : RingI w B r v room L) : v.ownBlock ≠ some r ∧ B ≤ r ∧ ∀ k, v.ownBlock = some k → B ≤ k := by
  obtain ⟨f, ys, h3, h4⟩ := h
  exact ⟨h3.apart, h3.low, fun k hk => (h3.owns.lt k hk).1⟩
theorem RingI.len {w : World} {B r : Nat} {v : Value} {room : Nat} {L : List Int} (h : RingI w B r v room L) : L.length ≤ room ∧ 1 ≤ room ∧ room ≤ 4096 := by
  obtain ⟨f, ys, h3, h4, h5, h6, _⟩ := h
  exact ⟨h6, h4, h5⟩

theorem RingI.pushed {w w' : World} {B r : Nat} {v : Value} {room : Nat} {L : List Int} (h : RingI w B r v room L) (hB : B ≤ w.heap.size) (ht : Turned (fun k => k = r ∨ v.ownBlock = some k) w w') : Below B w w' :=
  ht.below (fun k hk => by rcases hk with rfl | hk; exact h.apart.2.1; exact h.apart.2.2 k hk) hB

theorem ringI_made (room : Nat) (h1 : 1 ≤ room) (h2 : room ≤ 4096) (w : World) : Calls Try.prog 31 #[.int .i64 room] w fun e w' => ∃ r, e = .returned (.pointer (some ⟨r, 0, none⟩)) ∧ RingI w' w.heap.size r (.slice none 0 0) room [] ∧ Below w.heap.size w w' := by
  refine (ringI_new room h1 h2 w).mono ?_
  rintro e w' ⟨rfl, rfl⟩
  exact ⟨_, rfl, ⟨0, [], ⟨Nat.le_refl _, heap_alloc_at _ _ _ rfl, owns_nil _ _ _, by simp [Value.ownBlock], fun _ => rfl⟩, h1, h2, by simp, fun _ => rfl, by omega, rfl⟩, below1 _ _⟩

theorem ringI_push {w : World} {B r : Nat} {v : Value} {room : Nat} {L : List Int} (h : RingI w B r v room L) (hB : B ≤ w.heap.size) (x : Int) :
    Calls Try.prog 32 #[.pointer (some ⟨r, 0, none⟩), .int .i64 x] w fun e w' =>
      e = .returned (.tuple #[.int .i64 (if L.length < room then 0 else L[0]?.getD 0), .bool (decide (room ≤ L.length))]) ∧
      ∃ v', RingI w' B r v' room (Ring.next room L x) ∧ Turned (fun k => k = r ∨ v.ownBlock = some k) w w' ∧ (∀ k, v'.ownBlock = some k → v.ownBlock = some k ∨ w.heap.size ≤ k) := by
  obtain ⟨first, ys, h1, h2, h3, h4, h5, h6, h7⟩ := h
  have hyl : ys.length = L.length := by rw [← h7, rot_len]
  by_cases hl : L.length < room
  · obtain rfl := h5 hl
    rw [rot_zero] at h7
    subst h7
    refine (ringI_push_grows h1 hl h3 hB x).mono ?_
    rintro e w' ⟨rfl, v', g1, g2, g3⟩
    refine ⟨by rw [if_pos hl, decide_eq_false (by omega)], v', ⟨0, ys ++ [x], ?_, h2, h3, ?_, fun _ => rfl, by omega, ?_⟩, g2, g3⟩
    · unfold Ring.next
      rw [if_pos hl, List.length_append, intVals_append]
      exact g1
    · unfold Ring.next
      rw [if_pos hl]
      simp
      omega
    · unfold Ring.next
      rw [if_pos hl, rot_zero]
  · have hn : L.length = room := by omega
    have hnl : (Ring.next room L x).length = room := by
      unfold Ring.next
      rw [if_neg hl]
      simp
      omega
    rw [hn] at h1
    have hy : (intVals ys)[first]? = some (.int .i64 (L[0]?.getD 0)) := by
      have hlt : first < ys.length := by omega
      have : L[0]? = ys[first]? := by rw [← h7, rot_head _ _ hlt]
      rw [this, List.getElem?_eq_getElem hlt]
      simp [intVals, hlt]
    refine (ringI_push_full h1 h2 h3 h6 _ hy x).mono ?_
    rintro e w' ⟨rfl, g1, g2⟩
    refine ⟨by rw [if_neg hl, decide_eq_true (by omega)], v, ⟨(first + 1) % room, ys.set first x, ?_, h2, h3, by omega, fun h => by omega, Nat.mod_lt _ (by omega), ?_⟩, g2, fun k hk => .inl hk⟩
    · rw [hnl]
      have : intVals (ys.set first x) = (intVals ys).set first (.int .i64 x) := by simp [intVals, List.map_set]
      rw [this]
      exact g1
    · have := rot_push first ys x (by omega)
      rw [hyl, hn, h7] at this
      rw [this]
      unfold Ring.next
      rw [if_neg hl]

theorem ringI_list {w : World} {B r : Nat} {v : Value} {room : Nat} {L : List Int} (h : RingI w B r v room L) :
    Calls Try.prog 34 #[.pointer (some ⟨r, 0, none⟩)] w fun e w' => ∃ p c, e = .returned (.slice p L.length c) ∧ L.length ≤ c ∧ Ints .i64 w' p L ∧ Below w.heap.size w w' := by
  obtain ⟨first, ys, h1, h2, h3, h4, h5, h6, h7⟩ := h
  have hyl : ys.length = L.length := by rw [← h7, rot_len]
  refine (ringI_list_of (q := some ⟨r, 0, none⟩) L (by omega) (fun w' hb => ?_)).mono ?_
  · have := ringI_all (h1.below hb) (by omega) (by omega) (by intro u hu; simp [intVals] at hu; obtain ⟨a, _, rfl⟩ := hu; rfl)
    have e : rot first (intVals ys) = intVals L := by unfold intVals; rw [rot_map, h7]
    rw [e] at this
    exact this
  · rintro e w' ⟨u, rfl, hO, hb⟩
    obtain ⟨p, c, rfl, hc, hs⟩ := ints_of_owns hO
    exact ⟨p, c, rfl, hc, hs, hb⟩
theorem ringI_listNil (w : World) : Calls Try.prog 34 #[.pointer none] w fun e w' => ∃ p c, e = .returned (.slice p 0 c) ∧ Below w.heap.size w w' := by
  refine (ringI_list_of (q := none) [] (by simp) (fun w' hb => ringI_all_nil w')).mono ?_
  rintro e w' ⟨u, rfl, hO, hb⟩
  obtain ⟨p, c, rfl, _⟩ := hO.sl
  exact ⟨p, c, rfl, hb⟩
theorem ringI_roomOf {w : World} {B r : Nat} {v : Value} {room : Nat} {L : List Int} (h : RingI w B r v room L) : Calls Try.prog 36 #[.pointer (some ⟨r, 0, none⟩)] w fun e w' => e = .returned (.int .i64 room) ∧ w = w' := by
  obtain ⟨first, ys, h1, _⟩ := h
  exact ringI_room h1
theorem ringI_lenOf {w : World} {B r : Nat} {v : Value} {room : Nat} {L : List Int} (h : RingI w B r v room L) : Calls Try.prog 37 #[.pointer (some ⟨r, 0, none⟩)] w fun e w' => e = .returned (.int .i64 L.length) ∧ w = w' := by
  obtain ⟨first, ys, h1, _⟩ := h
  exact ringI_len h1
end Go.Proofs.Ytjbapfdgkaiehaa
