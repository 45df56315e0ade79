/- General lemmas of several texts, one after another. -/
import Derived.Test.YtldhbgefpfmkmaaGreatJBase
import Derived.Test.YtldhbgefpfmkmaaGreatJRingA
import Derived.WalkSpells
/- Layer 7: whether two slices of ints are the same, by the reference; the last ones. -/
namespace Go.Proofs.YtldhbgefpfmkmaaGreat
open Go.ChangeShapes Go.WideShapes Go.ChangeAt Go.RowKit

/-- The same numbers. -/
theorem same_from07 {a b : List Int} {k : Nat} (hk : k = a.length) (hl : a.length = b.length) (h : ∀ j, j < k → a[j]?.getD 0 = b[j]?.getD 0) : a = b := by
  apply List.ext_getElem hl
  intro i h1 h2
  have := h i (by omega)
  simpa [h1, h2] using this

/-- The last so many. -/
def lastN {α : Type} (n : Nat) (l : List α) : List α := l.drop (l.length - n)
theorem lastN_len {α : Type} (n : Nat) (l : List α) : (lastN n l).length = min n l.length := by unfold lastN; rw [List.length_drop]; omega
theorem lastN_all {α : Type} {n : Nat} {l : List α} (h : l.length ≤ n) : lastN n l = l := by unfold lastN; rw [show l.length - n = 0 by omega]; rfl

theorem Ints.drop {w : World} {b off : Nat} {l : List Int} (h : Ints .i64 w (some ⟨b, off, none⟩) l) (k : Nat) : Ints .i64 w (some ⟨b, off + k, none⟩) (l.drop k) := by
  rcases h with h | ⟨b', off', hp, hb, hc⟩
  · left; rw [List.length_drop]; omega
  · right
    simp only [Option.some.injEq, Addr.mk.injEq, and_true] at hp
    obtain ⟨rfl, rfl⟩ := hp
    refine ⟨b, off + k, rfl, hb, fun j hj => ?_⟩
    rw [List.length_drop] at hj
    show w.cell? _ = some (Value.int .i64 ((l.drop k)[j]?.getD 0))
    rw [List.getElem?_drop, Nat.add_assoc]
    exact hc (k + j) (by omega)
theorem Ints.take {w : World} {p : Option Addr} {l : List Int} (h : Ints .i64 w p l) (k : Nat) : Ints .i64 w p (l.take k) := by
  rcases h with h | ⟨b', off', hp, hb, hc⟩
  · left; rw [List.length_take]; omega
  · right
    refine ⟨b', off', hp, hb, fun j hj => ?_⟩
    rw [List.length_take] at hj
    show w.cell? _ = some (Value.int .i64 ((l.take k)[j]?.getD 0))
    rw [List.getElem?_take_of_lt (by omega)]
    exact hc j (by omega)

end Go.Proofs.YtldhbgefpfmkmaaGreat

/- Layer 7: a ring of ints, by what it has in order. -/
namespace Go.Proofs.YtldhbgefpfmkmaaGreat
open Go.ChangeShapes Go.WideShapes Go.ChangeAt Go.RowKit

theorem rot_zero {α : Type} (l : List α) : rot 0 l = l := by simp [rot]
theorem rot_len {α : Type} (f : Nat) (l : List α) : (rot f l).length = l.length := by simp [rot]; omega
theorem rot_map {α β : Type} (g : α → β) (f : Nat) (l : List α) : rot f (l.map g) = (rot f l).map g := by simp [rot]
theorem rot_head {α : Type} [Inhabited α] (f : Nat) (l : List α) (h : f < l.length) : (rot f l)[0]? = l[f]? := by
  unfold rot
  rw [List.getElem?_append_left (by rw [List.length_drop]; omega), List.getElem?_drop]
  rfl
theorem rot_push {α : Type} (f : Nat) (l : List α) (x : α) (h : f < l.length) : rot ((f + 1) % l.length) (l.set f x) = (rot f l).drop 1 ++ [x] := by
  have hset : l.set f x = l.take f ++ x :: l.drop (f + 1) := List.set_eq_take_append_cons_drop .. |>.trans (by rw [if_pos h])
  have hdr : l.drop f = l[f] :: l.drop (f + 1) := List.drop_eq_getElem_cons h
  have hr : (rot f l).drop 1 = l.drop (f + 1) ++ l.take f := by
    unfold rot
    rw [hdr]
    rfl
  have ht : (l.take f).length = f := by rw [List.length_take]; omega
  rw [hr, hset]
  by_cases h1 : f + 1 = l.length
  · rw [h1, Nat.mod_self, rot_zero]
    rw [List.drop_of_length_le (by omega)]
    simp
  · rw [Nat.mod_eq_of_lt (by omega)]
    unfold rot
    have e1 : (l.take f ++ x :: l.drop (f + 1)).drop (f + 1) = l.drop (f + 1) := by
      rw [show f + 1 = (l.take f).length + 1 by omega, List.drop_append]
      simp [ht]
    have e2 : (l.take f ++ x :: l.drop (f + 1)).take (f + 1) = l.take f ++ [x] := by
      rw [show f + 1 = (l.take f).length + 1 by omega, List.take_append]
      simp [ht]
      rw [List.take_of_length_le (by rw [ht]; omega)]
    rw [e1, e2, List.append_assoc]

def Ring.next {α : Type} (room : Nat) (L : List α) (x : α) : List α := if L.length < room then L ++ [x] else L.drop 1 ++ [x]
theorem Ring.next_last {α : Type} (room : Nat) (h : 1 ≤ room) (l : List α) (x : α) : Ring.next room (lastN room l) x = lastN room (l ++ [x]) := by
  unfold Ring.next
  rw [lastN_len]
  by_cases hl : l.length < room
  · rw [if_pos (by omega), lastN_all (by omega), lastN_all (by simp; omega)]
  · rw [if_neg (by omega)]
    unfold lastN
    rw [List.drop_drop, List.length_append, List.length_singleton, show l.length - room + 1 = l.length + 1 - room by omega, List.drop_append_of_le_length (by omega)]

end Go.Proofs.YtldhbgefpfmkmaaGreat

/- Layer 44: what a policy would have done, as data; decisions cloned; decisions compared. -/
namespace Go.Proofs.YtldhbgefpfmkmaaGreat
open Go.ChangeShapes Go.WideShapes Go.ChangeAt Go.RowKit

theorem Advs.news {w : World} {p : Option Addr} {l : List Adv} (h : Advs w p l) : ∀ ad, p = some ad → ∀ j u, (advVals l)[j]? = some u → w.cell? (ad.add j) = some u := by
  intro ad hp j u hu
  have hj : j < l.length * 5 := by
    have := (List.getElem?_eq_some_iff.1 hu).1
    rwa [advVals_len] at this
  rcases h with h | ⟨b, off, h, _, hc⟩
  · omega
  · rw [hp] at h
    cases h
    have hadd : (⟨b, off, none⟩ : Addr).add j = ⟨b, off + j, none⟩ := by unfold Addr.add; split <;> simp_all
    rw [hadd, hc j hj, ← advVals_get l j hj]
    exact hu
theorem advVals_one : ∀ (l : List Adv), ∀ u ∈ advVals l, u.oneCell' = true
  | [], u, h => by cases h
  | a :: l, u, h => by
    simp only [advVals, List.mem_cons] at h
    rcases h with rfl | rfl | rfl | rfl | rfl | h
    · rfl
    · rfl
    · rfl
    · rfl
    · rfl
    · exact advVals_one l u h
/-- Decisions in a row of their own. -/
theorem advs_alloc (w : World) (l : List Adv) (T : TypeId) (cs : Array Value) (h : cs = (advVals l).toArray) : Advs (w.alloc (.cells cs T)) (some ⟨w.heap.size, 0, none⟩) l := by
  subst h
  refine .inr ⟨w.heap.size, 0, rfl, by simp, fun j hj => ?_⟩
  rw [cell_of_row _ w.heap.size (0 + j) _ T (0, 0) (heap_alloc_at _ _ _ rfl), Nat.zero_add]
  simpa using advVals_get l j hj

/-- Decisions in blocks between A and B. -/
def AdvsIn (A B : Nat) (w : World) (q : Option Addr) (l : List Adv) : Prop := Advs w q l ∧ ∀ ad, q = some ad → A ≤ ad.block ∧ ad.block < B
theorem AdvsIn.below {A B : Nat} {w w' : World} {q : Option Addr} {l : List Adv} (h : AdvsIn A B w q l) (hb : Below w.heap.size w w') : AdvsIn A B w' q l := ⟨h.1.below hb, h.2⟩
theorem AdvsIn.wide {A B A' B' : Nat} {w : World} {q : Option Addr} {l : List Adv} (h : AdvsIn A B w q l) (ha : A' ≤ A) (hb : B ≤ B') : AdvsIn A' B' w q l :=
  ⟨h.1, fun ad had => ⟨Nat.le_trans ha (h.2 ad had).1, Nat.lt_of_lt_of_le (h.2 ad had).2 hb⟩⟩
theorem AdvsIn.same {A B : Nat} {w w' : World} {q : Option Addr} {l : List Adv} (h : AdvsIn A B w q l) (hz : w.heap.size ≤ w'.heap.size) (hk : ∀ k, A ≤ k → k < B → w'.heap[k]? = w.heap[k]?) : AdvsIn A B w' q l := by
  refine ⟨?_, h.2⟩
  rcases h.1 with h0 | ⟨b, off, hp, hb, hc⟩
  · exact .inl h0
  · obtain ⟨h1, h2⟩ := h.2 _ hp
    refine .inr ⟨b, off, hp, Nat.lt_of_lt_of_le hb hz, fun j hj => ?_⟩
    rw [← hc j hj]
    unfold World.cell?
    simp only
    rw [hk b h1 h2]
theorem AdvsIn.setRow {A B : Nat} {w : World} {q : Option Addr} {l : List Adv} (h : AdvsIn A B w q l) (b : Nat) (hb : b < A ∨ B ≤ b) (cs : Array Value) : AdvsIn A B (w.setRow b cs) q l :=
  h.same (below_setRow (Below.refl 0 w) (Nat.zero_le _) cs).size (fun k h1 h2 => setRow_other w b k cs (by omega))
theorem AdvsIn.setCell {A B : Nat} {w : World} {q : Option Addr} {l : List Adv} (h : AdvsIn A B w q l) (b j : Nat) (hb : b < A ∨ B ≤ b) (v : Value) : AdvsIn A B (w.setCell ⟨b, j, none⟩ v) q l :=
  h.same (by simp [World.setCell]) (fun k h1 h2 => Below.heap_setCell _ _ _ _ (by show k ≠ b; omega))

theorem Advs.at {w : World} {b off : Nat} {l : List Adv} (h : Advs w (some ⟨b, off, none⟩) l) (k : Nat) (hk : k < l.length) :
    w.cell? ⟨b, off + k * 5, none⟩ = some (.int .i64 (l[k]?.getD default).tick) ∧ w.cell? ⟨b, off + k * 5 + 1, none⟩ = some (.int .i64 (l[k]?.getD default).load) ∧
      w.cell? ⟨b, off + k * 5 + 2, none⟩ = some (.int .i64 (l[k]?.getD default).want) ∧ w.cell? ⟨b, off + k * 5 + 3, none⟩ = some (.int .i64 (l[k]?.getD default).repl) ∧ w.cell? ⟨b, off + k * 5 + 4, none⟩ = some (.int .i64 (l[k]?.getD default).why) := by
  obtain ⟨b', off', e, _, h2⟩ := h.cells k hk
  simp only [Option.some.injEq, Addr.mk.injEq] at e
  obtain ⟨rfl, rfl, _⟩ := e
  exact h2

end Go.Proofs.YtldhbgefpfmkmaaGreat

/- Layer 14: a ring of decisions, by what it has in order. -/
namespace Go.Proofs.YtldhbgefpfmkmaaGreat
open Go.ChangeShapes Go.WideShapes Go.ChangeAt Go.RowKit

theorem rot_adv (f : Nat) (l : List Adv) : rot (f * 5) (advVals l) = advVals (rot f l) := by
  have key : ∀ (f : Nat) (l : List Adv), (advVals l).drop (f * 5) = advVals (l.drop f) ∧ (advVals l).take (f * 5) = advVals (l.take f) := by
    intro f
    induction f with
    | zero => intro l; simp [advVals]
    | succ f ih =>
      intro l
      cases l with
      | nil => simp [advVals]
      | cons a l =>
        obtain ⟨h1, h2⟩ := ih l
        rw [show (f + 1) * 5 = f * 5 + 5 by omega]
        exact ⟨h1, by show _ :: _ :: _ :: _ :: _ :: (advVals l).take (f * 5) = _; rw [h2]; rfl⟩
  unfold rot
  rw [advVals_append, (key f l).1, (key f l).2]
theorem rot_getA {α : Type} (f : Nat) (l : List α) (h : f < l.length) (i : Nat) (hi : i < l.length) : (rot f l)[i]? = l[(f + i) % l.length]? := by
  unfold rot
  by_cases h1 : f + i < l.length
  · rw [List.getElem?_append_left (by rw [List.length_drop]; omega), List.getElem?_drop, Nat.mod_eq_of_lt h1]
  · rw [List.getElem?_append_right (by rw [List.length_drop]; omega), List.length_drop, List.getElem?_take_of_lt (by omega)]
    congr 1
    rw [show f + i = (f + i - l.length) + l.length by omega, Nat.add_mod_right, Nat.mod_eq_of_lt (by omega)]
    omega

/-- A ring of decisions that has L, in order. -/
def RingA (w : World) (B r : Nat) (v : Value) (room : Nat) (L : List Adv) : Prop :=
  ∃ first ys, RingAt 93 5 w B r v room first L.length (advVals ys) ∧ 1 ≤ room ∧ room ≤ 4096 ∧ L.length ≤ room ∧ (L.length < room → first = 0) ∧ first < room ∧ rot first ys = L
theorem RingA.below {w w' : World} {B r : Nat} {v : Value} {room : Nat} {L : List Adv} (h : RingA w B r v room L) (hb : Below w.heap.size w w') : RingA w' B r v room L := by
  obtain ⟨f, ys, h1, h2⟩ := h
  exact ⟨f, ys, h1.below hb, h2⟩
theorem RingA.turned {S : Nat → Prop} {w w' : World} {B r : Nat} {v : Value} {room : Nat} {L : List Adv} (h : RingA w B r v room L) (hb : Turned S w w') (h1 : ¬ S r) (h2 : ∀ k, v.ownBlock = some k → ¬ S k) : RingA w' B r v room L := by
  obtain ⟨f, ys, h3, h4⟩ := h
  exact ⟨f, ys, h3.turned hb h1 h2, h4⟩
theorem RingA.lt {w : World} {B r : Nat} {v : Value} {room : Nat} {L : List Adv} (h : RingA w B r v room L) : r < w.heap.size ∧ ∀ k, v.ownBlock = some k → k < w.heap.size := by
  obtain ⟨f, ys, h3, h4⟩ := h
  exact ⟨h3.lt, fun k hk => (h3.owns.lt k hk).2⟩
theorem RingA.apart {w : World} {B r : Nat} {v : Value} {room : Nat} {L : List Adv} (h : RingA w B r v room L) : v.ownBlock ≠ some r ∧ B ≤ r ∧ ∀ k, v.ownBlock = some k → B ≤ k := by
  obtain ⟨f, ys, h3, h4⟩ := h
  exact ⟨h3.apart, h3.low, fun k hk => (h3.owns.lt k hk).1⟩
theorem RingA.len {w : World} {B r : Nat} {v : Value} {room : Nat} {L : List Adv} (h : RingA w B r v room L) : L.length ≤ room ∧ 1 ≤ room ∧ room ≤ 4096 := by
  obtain ⟨f, ys, h3, h4, h5, h6, _⟩ := h
  exact ⟨h6, h4, h5⟩
theorem RingA.pushed {w w' : World} {B r : Nat} {v : Value} {room : Nat} {L : List Adv} (h : RingA w B r v room L) (hB : B ≤ w.heap.size) (ht : Turned (fun k => k = r ∨ v.ownBlock = some k) w w') : Below B w w' :=
  ht.below (fun k hk => by rcases hk with rfl | hk; exact h.apart.2.1; exact h.apart.2.2 k hk) hB

theorem ringA_made (room : Nat) (h1 : 1 ≤ room) (h2 : room ≤ 4096) (w : World) : Calls Tryz.prog 26 #[.int .i64 room] w fun e w' => ∃ r, e = .returned (.pointer (some ⟨r, 0, none⟩)) ∧ RingA w' w.heap.size r (.slice none 0 0) room [] ∧ Below w.heap.size w w' := by
  refine (ringA_new room h1 h2 w).mono ?_
  rintro e w' ⟨rfl, rfl⟩
  exact ⟨_, rfl, ⟨0, [], ⟨Nat.le_refl _, heap_alloc_at _ _ _ rfl, owns_nil _ _ _, by simp [Value.ownBlock], fun _ => rfl⟩, h1, h2, by simp, fun _ => rfl, by omega, rfl⟩, below1 _ _⟩

theorem ringA_push {w : World} {B r : Nat} {v : Value} {room : Nat} {L : List Adv} (h : RingA w B r v room L) (hB : B ≤ w.heap.size) (x : Adv) :
    Calls Tryz.prog 60 #[.pointer (some ⟨r, 0, none⟩), .agg #[.int .i64 x.tick, .int .i64 x.load, .int .i64 x.want, .int .i64 x.repl, .int .i64 x.why]] w fun e w' => (∃ u, e = .returned u) ∧
      ∃ v', RingA w' B r v' room (Ring.next room L x) ∧ Turned (fun k => k = r ∨ v.ownBlock = some k) w w' ∧ (∀ k, v'.ownBlock = some k → v.ownBlock = some k ∨ w.heap.size ≤ k) := by
  obtain ⟨first, ys, h1, h2, h3, h4, h5, h6, h7⟩ := h
  have hyl : ys.length = L.length := by rw [← h7, rot_len]
  by_cases hl : L.length < room
  · obtain rfl := h5 hl
    rw [rot_zero] at h7
    subst h7
    refine (ringA_push_grows h1 hl h3 hB x).mono ?_
    rintro e w' ⟨hu, v', g1, g2, g3⟩
    refine ⟨hu, v', ⟨0, ys ++ [x], ?_, h2, h3, ?_, fun _ => rfl, by omega, ?_⟩, g2, g3⟩
    · unfold Ring.next
      rw [if_pos hl, List.length_append, advVals_append]
      exact g1
    · unfold Ring.next
      rw [if_pos hl]
      simp
      omega
    · unfold Ring.next
      rw [if_pos hl, rot_zero]
  · have hn : L.length = room := by omega
    have hnl : (Ring.next room L x).length = room := by
      unfold Ring.next
      rw [if_neg hl]
      simp
      omega
    rw [hn] at h1
    have hlt : first < ys.length := by omega
    refine (ringA_push_full (xs' := advVals (ys.set first x)) h1 h2 h3 h6 ys[first] x (advVals_mid ys first _ (List.getElem?_eq_getElem hlt)) (by rw [advVals_len, advVals_len, List.length_set]) (fun i => ?_)).mono ?_
    · have := advVals_set ys first x i
      rw [if_pos hlt] at this
      exact this
    rintro e w' ⟨hu, g1, g2⟩
    refine ⟨hu, v, ⟨(first + 1) % room, ys.set first x, ?_, h2, h3, by omega, fun h => by omega, Nat.mod_lt _ (by omega), ?_⟩, g2, fun k hk => .inl hk⟩
    · rw [hnl]
      exact g1
    · have := rot_push first ys x (by omega)
      rw [hyl, hn, h7] at this
      rw [this]
      unfold Ring.next
      rw [if_neg hl]

theorem ringA_list {w : World} {B r : Nat} {v : Value} {room : Nat} {L : List Adv} (h : RingA w B r v room L) :
    Calls Tryz.prog 59 #[.pointer (some ⟨r, 0, none⟩)] w fun e w' => ∃ p c, e = .returned (.slice p L.length c) ∧ L.length ≤ c ∧ Advs w' p L ∧ Below w.heap.size w w' := by
  obtain ⟨first, ys, h1, h2, h3, h4, h5, h6, h7⟩ := h
  have hyl : ys.length = L.length := by rw [← h7, rot_len]
  refine (ringA_list_of (q := some ⟨r, 0, none⟩) L (by omega) (fun w' hb => ?_)).mono ?_
  · have := ringA_all (h1.below hb) (by omega) (by omega) (advVals_one ys)
    have e : rot (first * 5) (advVals ys) = advVals L := by rw [rot_adv, h7]
    rw [e] at this
    exact this
  · rintro e w' ⟨u, rfl, hO, hb⟩
    obtain ⟨p, c, rfl, hc, hs⟩ := advs_of_owns hO
    exact ⟨p, c, rfl, hc, hs, hb⟩
theorem ringA_listNil (w : World) : Calls Tryz.prog 59 #[.pointer none] w fun e w' => ∃ p c, e = .returned (.slice p 0 c) ∧ Below w.heap.size w w' := by
  refine (ringA_list_of (q := none) [] (by simp) (fun w' hb => ringA_all_nil w')).mono ?_
  rintro e w' ⟨u, rfl, hO, hb⟩
  obtain ⟨p, c, rfl, _⟩ := hO.sl
  exact ⟨p, c, rfl, hb⟩
theorem ringA_roomOf {w : World} {B r : Nat} {v : Value} {room : Nat} {L : List Adv} (h : RingA w B r v room L) : Calls Tryz.prog 61 #[.pointer (some ⟨r, 0, none⟩)] w fun e w' => e = .returned (.int .i64 room) ∧ w = w' := by
  obtain ⟨first, ys, h1, _⟩ := h
  exact ringA_room h1
end Go.Proofs.YtldhbgefpfmkmaaGreat

/- Layer 7: a ring of decisions, cloned. -/
namespace Go.Proofs.YtldhbgefpfmkmaaGreat
open Go.ChangeShapes Go.WideShapes Go.ChangeAt Go.RowKit

theorem RingAt.src5 {TR : TypeId} {w : World} {B r : Nat} {v : Value} {room first n : Nat} {xs : List Value} (h : RingAt TR 5 w B r v room first n xs) : Src w v n 5 xs := by
  by_cases h0 : n = 0
  · subst h0
    obtain rfl := h.void rfl
    obtain rfl : xs = [] := List.eq_nil_of_length_eq_zero (by simpa using h.owns.1)
    exact src_nil _ _
  · obtain ⟨g, cap, rfl, _⟩ := h.slice (by omega)
    have := (Owns.src5 h.owns 0 (by omega)).1
    simpa using this

end Go.Proofs.YtldhbgefpfmkmaaGreat

/- Layer 14: a history. -/
namespace Go.Proofs.YtldhbgefpfmkmaaGreat
open Go.ChangeShapes Go.WideShapes Go.ChangeAt Go.RowKit

/-- A history that has L, in order. -/
structure HistA (w : World) (B h r : Nat) (v : Value) (room : Nat) (L : List Adv) : Prop where
  low : B ≤ h
  row : w.heap[h]? = some (.cells #[.pointer (some ⟨r, 0, none⟩)] 75 (0, 0))
  ring : RingA w B r v room L
  apart : h ≠ r
  apart2 : v.ownBlock ≠ some h
section
variable {w w' : World} {B h r : Nat} {v : Value} {room : Nat} {L : List Adv}
theorem HistA.below (H : HistA w B h r v room L) (hb : Below w.heap.size w w') : HistA w' B h r v room L := ⟨H.low, (hb.block _ (lt_of_heap H.row)).trans H.row, H.ring.below hb, H.apart, H.apart2⟩
theorem HistA.turned {S : Nat → Prop} (H : HistA w B h r v room L) (hb : Turned S w w') (h0 : ¬ S h) (h1 : ¬ S r) (h2 : ∀ k, v.ownBlock = some k → ¬ S k) : HistA w' B h r v room L :=
  ⟨H.low, (hb.block _ (lt_of_heap H.row) h0).trans H.row, H.ring.turned hb h1 h2, H.apart, H.apart2⟩
theorem HistA.cell (H : HistA w B h r v room L) : w.cell? ⟨h, 0, none⟩ = some (.pointer (some ⟨r, 0, none⟩)) := by rw [cell_of_row _ _ _ _ _ _ H.row]; rfl
theorem HistA.lift {B' : Nat} (H : HistA w B h r v room L) (hB : B' ≤ B) : HistA w B' h r v room L := by
  obtain ⟨f, ys, g1, g2⟩ := H.ring
  exact ⟨Nat.le_trans hB H.low, H.row, ⟨f, ys, ⟨Nat.le_trans hB g1.low, g1.row, g1.owns.mono hB, g1.apart, g1.void⟩, g2⟩, H.apart, H.apart2⟩
theorem stab_hist : Stab (fun w' => HistA w' B h r v room L) := fun _ _ h hb => h.below hb
theorem HistA.pushed (H : HistA w B h r v room L) (hB : B ≤ w.heap.size) (ht : Turned (fun k => k = r ∨ v.ownBlock = some k) w w') : Below B w w' := H.ring.pushed hB ht
end

theorem hist_new_no (room : Int) (h : room < 1 ∨ 64 < room) (w : World) : Calls Tryz.prog 13 #[.int .i64 room] w fun e w' => e = .returned (.pointer none) ∧ w = w' := by
  by_cases h1 : room < 1
  · clear h
    go_enter Tryz.func13, Tryz.ntmps13
    go_wp2
    go_ret
    exact ⟨rfl, rfl⟩
  · have h2 : 64 < room := by omega
    clear h
    go_enter Tryz.func13, Tryz.ntmps13
    go_wp2
    go_ret
    exact ⟨rfl, rfl⟩
theorem hist_new (room : Nat) (h1 : 1 ≤ room) (h2 : room ≤ 64) (w : World) : Calls Tryz.prog 13 #[.int .i64 room] w fun e w' => ∃ h r, e = .returned (.pointer (some ⟨h, 0, none⟩)) ∧ HistA w' w.heap.size h r (.slice none 0 0) room [] ∧ Below w.heap.size w w' := by
  have g := Lib.hid (ringA_made room h1 (by omega))
  have d1 : decide ((room : Int) < 1) = false := decide_eq_false (by omega)
  have d2 : decide ((64 : Int) < room) = false := decide_eq_false (by omega)
  go_enter Tryz.func13, Tryz.ntmps13
  go_wp2_with fail
  (with_reducible refine (g.out _).mono ?_)
  rintro e w1 ⟨r, rfl, hr, hb⟩
  have R := Lib.hid hr
  have B1 := Lib.hid hb
  clear hr hb
  go_wp2
  go_ret
  have hlt := R.out.lt
  exact ⟨_, r, rfl, ⟨B1.out.size, heap_alloc_at _ _ _ rfl, R.out.below (below1 _ _), by omega, by simp [Value.ownBlock]⟩, B1.out.alloc B1.out.size _⟩

theorem hist_kept_nil (w : World) : Calls Tryz.prog 58 #[.pointer none] w fun e w' => e = .returned (.pointer none) ∧ w = w' := by
  go_enter Tryz.func58, Tryz.ntmps58
  go_wp2
  go_ret
  exact ⟨rfl, rfl⟩
theorem hist_kept {w : World} {B h r : Nat} {v : Value} {room : Nat} {L : List Adv} (H : HistA w B h r v room L) : Calls Tryz.prog 58 #[.pointer (some ⟨h, 0, none⟩)] w fun e w' => e = .returned (.pointer (some ⟨r, 0, none⟩)) ∧ w = w' := by
  have c := H.cell
  clear H
  go_enter Tryz.func58, Tryz.ntmps58
  go_wp2
  go_ret
  exact ⟨rfl, rfl⟩
theorem hist_list_nil (w : World) : Calls Tryz.prog 31 #[.pointer none] w fun e w' => ∃ p c, e = .returned (.slice p 0 c) ∧ Below w.heap.size w w' := by
  have h1 := Lib.hid hist_kept_nil
  have h2 := Lib.hid ringA_listNil
  go_enter Tryz.func31, Tryz.ntmps31
  go_wp2_with (first | ((with_reducible refine (h1.out _).mono ?_); rintro e w1 ⟨rfl, rfl⟩) | ((with_reducible refine (h2.out _).mono ?_); rintro e w1 ⟨p, c, rfl, hb⟩))
  go_ret
  exact ⟨p, c, rfl, hb⟩
theorem hist_list {w : World} {B h r : Nat} {v : Value} {room : Nat} {L : List Adv} (H : HistA w B h r v room L) : Calls Tryz.prog 31 #[.pointer (some ⟨h, 0, none⟩)] w fun e w' => ∃ p c, e = .returned (.slice p L.length c) ∧ L.length ≤ c ∧ Advs w' p L ∧ Below w.heap.size w w' := by
  have h1 := Lib.hid (hist_kept H)
  have h2 := Lib.hid (ringA_list H.ring)
  clear H
  go_enter Tryz.func31, Tryz.ntmps31
  go_wp2_with (first | ((with_reducible refine h1.out.mono ?_); rintro e w1 ⟨rfl, rfl⟩) | ((with_reducible refine h2.out.mono ?_); rintro e w1 ⟨p, c, rfl, hc, hs, hb⟩))
  go_ret
  exact ⟨p, c, rfl, hc, hs, hb⟩

set_option maxRecDepth 100000 in
theorem hist_add_nil (a : Adv) (w : World) : Calls Tryz.prog 32 #[.pointer none, .agg #[.int .i64 a.tick, .int .i64 a.load, .int .i64 a.want, .int .i64 a.repl, .int .i64 a.why]] w fun e w' => e = .returned (.bool false) ∧ Below w.heap.size w w' := by
  have h1 := Lib.hid hist_kept_nil
  have h2 := Lib.hid (ringA_push_nil a)
  have h3 := Lib.hid ringA_room_nil
  have hst := stab_and (stab_below (B := w.heap.size) (w0 := w) (Nat.le_refl _)) (stab_heap w.heap.size (.cells #[.int .i64 a.tick, .int .i64 a.load, .int .i64 a.want, .int .i64 a.repl, .int .i64 a.why] 66 (0, 0)))
  go_enter Tryz.func32, Tryz.ntmps32
  go_wp2_with fail
  refine wp_region_E mixed [] hst ⟨below_drew (below1 _ _), heap_alloc_at _ _ _ rfl⟩ ?_
  refine wpAnyE_take 0 rfl (by kernel_rfl) (by kernel_rfl) (by kernel_rfl) (fun _ _ _ h => h) hst (EffB.pure rfl (fun _ => rfl)) (.inr (EffB.pure rfl (fun _ => rfl))) ?_
  simp only [act_norm]
  refine wpAnyE_take 1 (v := .pointer none) rfl (by kernel_rfl) (by kernel_rfl) (by kernel_rfl) (fun _ _ _ h => h) hst (EffB.run rfl rfl (fun wd hS => ?_)) (.inl (by kernel_rfl)) ?_
  · (go_wp2_with fail; (with_reducible refine (h1.out wd).mono ?_); rintro e w'' ⟨rfl, rfl⟩; exact ⟨rfl, Below.refl _ _⟩)
  simp only [act_norm]
  refine wpAnyE_take 2 (v := .agg #[.int .i64 a.tick, .int .i64 a.load, .int .i64 a.want, .int .i64 a.repl, .int .i64 a.why]) rfl (by kernel_rfl) (by kernel_rfl) (by kernel_rfl) (fun _ _ _ h => h) hst (EffB.run rfl rfl (fun wd hS => ?_)) (.inl (by kernel_rfl)) ?_
  · exact wp_load_row 66 _ rfl (w.heap.size) rfl 66 #[.int .i64 a.tick, .int .i64 a.load, .int .i64 a.want, .int .i64 a.repl, .int .i64 a.why] (0, 0) _ (hS.2) Tryz.underlying66 rfl (by kernel_rfl) ⟨rfl, Below.refl _ _⟩
  simp only [act_norm]
  refine wpAnyE_one 3 rfl (by kernel_rfl) rfl (fun wd hS => ?_)
  go_wp2_with fail
  (with_reducible refine (h2.out _).mono ?_)
  rintro e w2 ⟨⟨u, rfl⟩, hb⟩
  refine ⟨_, hst _ _ hS hb, hst, (by first | exact fun _ h => h | exact .inr fun _ h => h), ?_⟩
  clear hS hb
  try simp only [act_norm]
  refine wpAnyE_done (by kernel_rfl) (fun wd hS => ?_) _
  have HS := Lib.hid hS
  clear hS
  go_wp2_with (first | ((with_reducible refine (h1.out _).mono ?_); rintro e w1 ⟨rfl, rfl⟩) | ((with_reducible refine (h3.out _).mono ?_); rintro e w1 ⟨rfl, rfl⟩))
  go_ret
  exact ⟨rfl, HS.out.1⟩
set_option maxRecDepth 100000 in
theorem hist_add {w : World} {B h r : Nat} {v : Value} {room : Nat} {L : List Adv} (H : HistA w B h r v room L) (hB : B ≤ w.heap.size) (a : Adv) :
    Calls Tryz.prog 32 #[.pointer (some ⟨h, 0, none⟩), .agg #[.int .i64 a.tick, .int .i64 a.load, .int .i64 a.want, .int .i64 a.repl, .int .i64 a.why]] w fun e w' => e = .returned (.bool true) ∧
      ∃ v', HistA w' B h r v' room (Ring.next room L a) ∧ Turned (fun k => k = r ∨ v.ownBlock = some k) w w' ∧ (∀ k, v'.ownBlock = some k → v.ownBlock = some k ∨ w.heap.size ≤ k) := by
  have HH := H.below (below1 w (.cells #[.int .i64 a.tick, .int .i64 a.load, .int .i64 a.want, .int .i64 a.repl, .int .i64 a.why] 66))
  have hlen := H.ring.len
  have hst := stab_and (stab_hist (B := B) (h := h) (r := r) (v := v) (room := room) (L := L)) (stab_and (stab_below (B := w.heap.size) (w0 := w) (Nat.le_refl _)) (stab_heap w.heap.size (.cells #[.int .i64 a.tick, .int .i64 a.load, .int .i64 a.want, .int .i64 a.repl, .int .i64 a.why] 66 (0, 0))))
  have HLT := Lib.hid H.ring.lt
  have HLH := Lib.hid (lt_of_heap H.row)
  have HAP := Lib.hid H.apart
  have HAP2 := Lib.hid H.apart2
  have HH2 := Lib.hid HH
  clear HH H
  go_enter Tryz.func32, Tryz.ntmps32
  go_wp2_with fail
  refine wp_region_E mixed [3] hst ⟨HH2.out.below (below_drew (Below.refl _ _)), below_drew (below1 _ _), heap_alloc_at _ _ _ rfl⟩ ?_
  refine wpAnyE_take 0 rfl (by kernel_rfl) (by kernel_rfl) (by kernel_rfl) (fun _ _ _ h => h) hst (EffB.pure rfl (fun _ => rfl)) (.inr (EffB.pure rfl (fun _ => rfl))) ?_
  simp only [act_norm]
  refine wpAnyE_take 1 (v := .pointer (some ⟨r, 0, none⟩)) rfl (by kernel_rfl) (by kernel_rfl) (by kernel_rfl) (fun _ _ _ h => h) hst (EffB.run rfl rfl (fun wd hS => ?_)) (.inl (by kernel_rfl)) ?_
  · (go_wp2_with fail; (with_reducible refine (hist_kept hS.1).mono ?_); rintro e w'' ⟨rfl, rfl⟩; exact ⟨rfl, Below.refl _ _⟩)
  simp only [act_norm]
  refine wpAnyE_take 2 (v := .agg #[.int .i64 a.tick, .int .i64 a.load, .int .i64 a.want, .int .i64 a.repl, .int .i64 a.why]) rfl (by kernel_rfl) (by kernel_rfl) (by kernel_rfl) (fun _ _ _ h => h) hst (EffB.run rfl rfl (fun wd hS => ?_)) (.inl (by kernel_rfl)) ?_
  · exact wp_load_row 66 _ rfl (w.heap.size) rfl 66 #[.int .i64 a.tick, .int .i64 a.load, .int .i64 a.want, .int .i64 a.repl, .int .i64 a.why] (0, 0) _ (hS.2.2) Tryz.underlying66 rfl (by kernel_rfl) ⟨rfl, Below.refl _ _⟩
  simp only [act_norm]
  refine wpAnyE_one 3 rfl (by kernel_rfl) rfl (fun wd hS => ?_)
  go_wp2_with fail
  (with_reducible refine (ringA_push hS.1.ring (Nat.le_trans hB hS.2.1.size) a).mono ?_)
  rintro e w2 ⟨⟨u, rfl⟩, v', hr', ht, hw⟩
  have hlw := HLT.out
  have hlh := HLH.out
  have ht2 : Turned (fun k => k = r ∨ v.ownBlock = some k) w w2 := (Turned.of_below hS.2.1).trans ht (fun k _ h => h)
  have hH' : HistA w2 B h r v' room (Ring.next room L a) := ⟨hS.1.low, (ht.block _ (lt_of_heap hS.1.row) (fun e => by rcases e with e | e; exact HAP.out e; exact HAP2.out e)).trans hS.1.row, hr', HAP.out, fun e => by rcases hw _ e with h1 | h1; exact HAP2.out h1; have := hS.2.1.size; omega⟩
  have X := Lib.hid (And.intro hH' ht2)
  have HW : Hid (∀ k, v'.ownBlock = some k → v.ownBlock = some k ∨ w.heap.size ≤ k) := fun k hk => (hw k hk).imp id (fun h => Nat.le_trans hS.2.1.size h)
  have hst2 := stab_and (stab_hist (B := B) (h := h) (r := r) (v := v') (room := room) (L := Ring.next room L a)) (stab_turned (S := fun k => k = r ∨ v.ownBlock = some k) (w := w))
  refine ⟨_, X.out, hst2, ?_⟩
  clear hS hr' ht hw ht2 hH' X hst
  try simp only [act_norm]
  refine wpAnyE_done (by kernel_rfl) (fun wd hS => ?_) _
  have HS := Lib.hid hS
  have F1 := Lib.hid (hist_kept hS.1)
  have F2 := Lib.hid (ringA_roomOf hS.1.ring)
  clear hS hst2
  have d1 : decide ((0 : Int) < room) = true := decide_eq_true (by omega)
  have d2 : decide (0 < room) = true := decide_eq_true (by omega)
  go_wp2_with (first | ((with_reducible refine F1.out.mono ?_); rintro e w1 ⟨rfl, rfl⟩) | ((with_reducible refine F2.out.mono ?_); rintro e w1 ⟨rfl, rfl⟩))
  go_ret
  exact ⟨rfl, v', HS.out.1, HS.out.2, HW.out⟩
end Go.Proofs.YtldhbgefpfmkmaaGreat
