/- General lemmas of several texts, one after another. -/
import Derived.Test.YtapgcbjlgekpeaaJBase
import Derived.Test.YtapgcbjlgekpeaaJRingA
import Derived.WalkSpells
/- Layer 7: whether two slices of ints are the same, by the reference; the last ones. -/
namespace Go.Proofs.Ytapgcbjlgekpeaa
open Go.ChangeShapes Go.WideShapes Go.ChangeAt Go.RowKit

/-- The same numbers. -/
theorem same_from07 {a b : List Int} {k : Nat} (hk : k = a.length) (hl : a.length = b.length) (h : ∀ j, j < k → a[j]?.getD 0 = b[j]?.getD 0) : a = b := by
  apply List.ext_getElem hl
  intro i h1 h2
  have := h i (by omega)
  simpa [h1, h2] using this

set_option maxHeartbeats 1000000 in
set_option maxRecDepth 100000 in
theorem ref07_same (p q : Option Addr) (c d : Nat) (a b : List Int) (w : World) (ha : Ints .i64 w p a) (hb : Ints .i64 w q b) (la : a.length ≤ 9223372036854775807) (lb : b.length ≤ 9223372036854775807) :
    Calls Try.prog 47 #[.slice p a.length c, .slice q b.length d] w fun e w' => e = .returned (.bool (decide (a = b))) ∧ Below w.heap.size w w' := by
  have HA := Lib.hid ha
  have HB := Lib.hid hb
  have HYES : Hid (a = b → decide (a = b) = true) := fun h => decide_eq_true h
  have HNO : Hid (¬ a = b → decide (a = b) = false) := fun h => decide_eq_false h
  obtain ⟨r, hr⟩ : ∃ r, r = decide (a = b) := ⟨_, rfl⟩
  rw [← hr] at HYES HNO ⊢
  obtain ⟨n, hn⟩ : ∃ n, n = a.length := ⟨_, rfl⟩
  obtain ⟨m, hm⟩ : ∃ m, m = b.length := ⟨_, rfl⟩
  rw [← hn] at la ⊢
  rw [← hm] at lb ⊢
  have HN := Lib.hid hn
  have HM := Lib.hid hm
  clear ha hb hr hn hm
  by_cases hne : n = m
  · subst hne
    go_enter Try.func47, Try.ntmps47
    go_wp2
    go_loopw [5] (fun i wr => ∃ k : Nat, k ≤ n ∧ i = .int .i64 k ∧ (∀ j, j < k → a[j]?.getD 0 = b[j]?.getD 0) ∧ Below w.heap.size w wr) (fun i _ => n - (intOf i).toNat)
    case atStart => exact ⟨0, by omega, rfl, fun j hj => by omega, Below.refl _ _⟩
    case round =>
      obtain ⟨k, hk, rfl, hj, hBW⟩ := hrel
      have HJ := Lib.hid hj
      have HBW := Lib.hid hBW
      clear hj hBW
      by_cases hlt : k < n
      · obtain ⟨b1, o1, rfl, hb1, hc1⟩ := HA.out.pos (by have := HN.out; omega)
        obtain ⟨b2, o2, rfl, hb2, hc2⟩ := HB.out.pos (by have := HM.out; omega)
        have g1 := hc1 k (by have := HN.out; omega)
        have g2 := hc2 k (by have := HM.out; omega)
        rw [← HBW.out.cell (p := ⟨b1, o1 + k, none⟩) hb1] at g1
        rw [← HBW.out.cell (p := ⟨b2, o2 + k, none⟩) hb2] at g2
        have HX : Hid (a[k]?.getD 0 = b[k]?.getD 0 → ∀ j, j < k + 1 → a[j]?.getD 0 = b[j]?.getD 0) := fun h j hj => by
          by_cases e : j = k
          · rw [e]; exact h
          · exact HJ.out j (by omega)
        have HXN : Hid (¬ a[k]?.getD 0 = b[k]?.getD 0 → ¬ a = b) := fun h e => h (by rw [e])
        obtain ⟨x, ex⟩ : ∃ x, x = a[k]?.getD 0 := ⟨_, rfl⟩
        obtain ⟨y, ey⟩ : ∃ y, y = b[k]?.getD 0 := ⟨_, rfl⟩
        rw [← ex] at g1 HX HXN
        rw [← ey] at g2 HX HXN
        clear hc1 hc2 ex ey
        have i1 : (0 : Int) ≤ k := by omega
        have i2 : (k : Int) < n := by omega
        by_cases hxy : x = y
        · subst hxy
          have HX2 := Lib.hid (HX.out rfl)
          clear HX HXN
          go_wp2
          go_quiet (fail)
          go_wp2
          exact ⟨⟨k + 1, by omega, by go_num, HX2.out, below_drewN HBW.out nq⟩, by simp [intOf]; omega⟩
        · have HE := Lib.hid (HNO.out (HXN.out hxy))
          have hxb : (x == y) = false := beq_eq_false_iff_ne.2 hxy
          clear HX HXN
          go_wp2
          go_quiet (fail)
          go_wp2
          go_ret
          exact ⟨ret_bool HE.out.symm, below_drewN HBW.out _⟩
      · obtain rfl : k = n := by omega
        have HE := Lib.hid (HYES.out (same_from07 (k := k) HN.out (by rw [← HN.out, ← HM.out]) HJ.out))
        go_wp2
        go_ret
        exact ⟨ret_bool HE.out.symm, HBW.out⟩
  · have HE := Lib.hid (HNO.out (fun h => hne (by rw [HN.out, HM.out, h])))
    have hni : ¬ (n : Int) = m := by omega
    go_enter Try.func47, Try.ntmps47
    go_wp2
    go_ret
    exact ⟨ret_bool HE.out.symm, Below.refl _ _⟩


/-- The last so many. -/
def lastN {α : Type} (n : Nat) (l : List α) : List α := l.drop (l.length - n)
theorem lastN_len {α : Type} (n : Nat) (l : List α) : (lastN n l).length = min n l.length := by unfold lastN; rw [List.length_drop]; omega
theorem lastN_all {α : Type} {n : Nat} {l : List α} (h : l.length ≤ n) : lastN n l = l := by unfold lastN; rw [show l.length - n = 0 by omega]; rfl

theorem Ints.drop {w : World} {b off : Nat} {l : List Int} (h : Ints .i64 w (some ⟨b, off, none⟩) l) (k : Nat) : Ints .i64 w (some ⟨b, off + k, none⟩) (l.drop k) := by
  rcases h with h | ⟨b', off', hp, hb, hc⟩
  · left; rw [List.length_drop]; omega
  · right
    simp only [Option.some.injEq, Addr.mk.injEq, and_true] at hp
    obtain ⟨rfl, rfl⟩ := hp
    refine ⟨b, off + k, rfl, hb, fun j hj => ?_⟩
    rw [List.length_drop] at hj
    show w.cell? _ = some (Value.int .i64 ((l.drop k)[j]?.getD 0))
    rw [List.getElem?_drop, Nat.add_assoc]
    exact hc (k + j) (by omega)
theorem Ints.take {w : World} {p : Option Addr} {l : List Int} (h : Ints .i64 w p l) (k : Nat) : Ints .i64 w p (l.take k) := by
  rcases h with h | ⟨b', off', hp, hb, hc⟩
  · left; rw [List.length_take]; omega
  · right
    refine ⟨b', off', hp, hb, fun j hj => ?_⟩
    rw [List.length_take] at hj
    show w.cell? _ = some (Value.int .i64 ((l.take k)[j]?.getD 0))
    rw [List.getElem?_take_of_lt (by omega)]
    exact hc j (by omega)

end Go.Proofs.Ytapgcbjlgekpeaa

/- Layer 7: a ring of ints, by what it has in order. -/
namespace Go.Proofs.Ytapgcbjlgekpeaa
open Go.ChangeShapes Go.WideShapes Go.ChangeAt Go.RowKit

theorem rot_zero {α : Type} (l : List α) : rot 0 l = l := by simp [rot]
theorem rot_len {α : Type} (f : Nat) (l : List α) : (rot f l).length = l.length := by simp [rot]; omega
theorem rot_map {α β : Type} (g : α → β) (f : Nat) (l : List α) : rot f (l.map g) = (rot f l).map g := by simp [rot]
theorem rot_head {α : Type} [Inhabited α] (f : Nat) (l : List α) (h : f < l.length) : (rot f l)[0]? = l[f]? := by
  unfold rot
  rw [List.getElem?_append_left (by rw [List.length_drop]; omega), List.getElem?_drop]
  rfl
theorem rot_push {α : Type} (f : Nat) (l : List α) (x : α) (h : f < l.length) : rot ((f + 1) % l.length) (l.set f x) = (rot f l).drop 1 ++ [x] := by
  have hset : l.set f x = l.take f ++ x :: l.drop (f + 1) := List.set_eq_take_append_cons_drop .. |>.trans (by rw [if_pos h])
  have hdr : l.drop f = l[f] :: l.drop (f + 1) := List.drop_eq_getElem_cons h
  have hr : (rot f l).drop 1 = l.drop (f + 1) ++ l.take f := by
    unfold rot
    rw [hdr]
    rfl
  have ht : (l.take f).length = f := by rw [List.length_take]; omega
  rw [hr, hset]
  by_cases h1 : f + 1 = l.length
  · rw [h1, Nat.mod_self, rot_zero]
    rw [List.drop_of_length_le (by omega)]
    simp
  · rw [Nat.mod_eq_of_lt (by omega)]
    unfold rot
    have e1 : (l.take f ++ x :: l.drop (f + 1)).drop (f + 1) = l.drop (f + 1) := by
      rw [show f + 1 = (l.take f).length + 1 by omega, List.drop_append]
      simp [ht]
    have e2 : (l.take f ++ x :: l.drop (f + 1)).take (f + 1) = l.take f ++ [x] := by
      rw [show f + 1 = (l.take f).length + 1 by omega, List.take_append]
      simp [ht]
      rw [List.take_of_length_le (by rw [ht]; omega)]
    rw [e1, e2, List.append_assoc]

def Ring.next {α : Type} (room : Nat) (L : List α) (x : α) : List α := if L.length < room then L ++ [x] else L.drop 1 ++ [x]
theorem Ring.next_last {α : Type} (room : Nat) (h : 1 ≤ room) (l : List α) (x : α) : Ring.next room (lastN room l) x = lastN room (l ++ [x]) := by
  unfold Ring.next
  rw [lastN_len]
  by_cases hl : l.length < room
  · rw [if_pos (by omega), lastN_all (by omega), lastN_all (by simp; omega)]
  · rw [if_neg (by omega)]
    unfold lastN
    rw [List.drop_drop, List.length_append, List.length_singleton, show l.length - room + 1 = l.length + 1 - room by omega, List.drop_append_of_le_length (by omega)]

/-- A ring of ints that has L, in order. -/
def RingI (w : World) (B r : Nat) (v : Value) (room : Nat) (L : List Int) : Prop :=
  ∃ first ys, RingAt 227 1 w B r v room first L.length (intVals ys) ∧ 1 ≤ room ∧ room ≤ 4096 ∧ L.length ≤ room ∧ (L.length < room → first = 0) ∧ first < room ∧ rot first ys = L
theorem RingI.below {w w' : World} {B r : Nat} {v : Value} {room : Nat} {L : List Int} (h : RingI w B r v room L) (hb : Below w.heap.size w w') : RingI w' B r v room L := by
  obtain ⟨f, ys, h1, h2⟩ := h
  exact ⟨f, ys, h1.below hb, h2⟩
theorem RingI.turned {S : Nat → Prop} {w w' : World} {B r : Nat} {v : Value} {room : Nat} {L : List Int} (h : RingI w B r v room L) (hb : Turned S w w') (h1 : ¬ S r) (h2 : ∀ k, v.ownBlock = some k → ¬ S k) : RingI w' B r v room L := by
  obtain ⟨f, ys, h3, h4⟩ := h
  exact ⟨f, ys, h3.turned hb h1 h2, h4⟩
theorem RingI.lt {w : World} {B r : Nat} {v : Value} {room : Nat} {L : List Int} (h : RingI w B r v room L) : r < w.heap.size ∧ ∀ k, v.ownBlock = some k → k < w.heap.size := by
  obtain ⟨f, ys, h3, h4⟩ := h
  exact ⟨h3.lt, fun k hk => (h3.owns.lt k hk).2⟩
theorem RingI.apart {w : World} {B r : Nat} {v : Value} {room : Nat} {L : List Int} (h : RingI w B r v room L) : v.ownBlock ≠ some r ∧ B ≤ r ∧ ∀ k, v.ownBlock = some k → B ≤ k := by
  obtain ⟨f, ys, h3, h4⟩ := h
  exact ⟨h3.apart, h3.low, fun k hk => (h3.owns.lt k hk).1⟩
theorem RingI.len {w : World} {B r : Nat} {v : Value} {room : Nat} {L : List Int} (h : RingI w B r v room L) : L.length ≤ room ∧ 1 ≤ room ∧ room ≤ 4096 := by
  obtain ⟨f, ys, h3, h4, h5, h6, _⟩ := h
  exact ⟨h6, h4, h5⟩

theorem RingI.pushed {w w' : World} {B r : Nat} {v : Value} {room : Nat} {L : List Int} (h : RingI w B r v room L) (hB : B ≤ w.heap.size) (ht : Turned (fun k => k = r ∨ v.ownBlock = some k) w w') : Below B w w' :=
  ht.below (fun k hk => by rcases hk with rfl | hk; exact h.apart.2.1; exact h.apart.2.2 k hk) hB

theorem ringI_made (room : Nat) (h1 : 1 ≤ room) (h2 : room ≤ 4096) (w : World) : Calls Try.prog 127 #[.int .i64 room] w fun e w' => ∃ r, e = .returned (.pointer (some ⟨r, 0, none⟩)) ∧ RingI w' w.heap.size r (.slice none 0 0) room [] ∧ Below w.heap.size w w' := by
  refine (ringI_new room h1 h2 w).mono ?_
  rintro e w' ⟨rfl, rfl⟩
  exact ⟨_, rfl, ⟨0, [], ⟨Nat.le_refl _, heap_alloc_at _ _ _ rfl, owns_nil _ _ _, by simp [Value.ownBlock], fun _ => rfl⟩, h1, h2, by simp, fun _ => rfl, by omega, rfl⟩, below1 _ _⟩

theorem ringI_push {w : World} {B r : Nat} {v : Value} {room : Nat} {L : List Int} (h : RingI w B r v room L) (hB : B ≤ w.heap.size) (x : Int) :
    Calls Try.prog 128 #[.pointer (some ⟨r, 0, none⟩), .int .i64 x] w fun e w' =>
      e = .returned (.tuple #[.int .i64 (if L.length < room then 0 else L[0]?.getD 0), .bool (decide (room ≤ L.length))]) ∧
      ∃ v', RingI w' B r v' room (Ring.next room L x) ∧ Turned (fun k => k = r ∨ v.ownBlock = some k) w w' ∧ (∀ k, v'.ownBlock = some k → v.ownBlock = some k ∨ w.heap.size ≤ k) := by
  obtain ⟨first, ys, h1, h2, h3, h4, h5, h6, h7⟩ := h
  have hyl : ys.length = L.length := by rw [← h7, rot_len]
  by_cases hl : L.length < room
  · obtain rfl := h5 hl
    rw [rot_zero] at h7
    subst h7
    refine (ringI_push_grows h1 hl h3 hB x).mono ?_
    rintro e w' ⟨rfl, v', g1, g2, g3⟩
    refine ⟨by rw [if_pos hl, decide_eq_false (by omega)], v', ⟨0, ys ++ [x], ?_, h2, h3, ?_, fun _ => rfl, by omega, ?_⟩, g2, g3⟩
    · unfold Ring.next
      rw [if_pos hl, List.length_append, intVals_append]
      exact g1
    · unfold Ring.next
      rw [if_pos hl]
      simp
      omega
    · unfold Ring.next
      rw [if_pos hl, rot_zero]
  · have hn : L.length = room := by omega
    have hnl : (Ring.next room L x).length = room := by
      unfold Ring.next
      rw [if_neg hl]
      simp
      omega
    rw [hn] at h1
    have hy : (intVals ys)[first]? = some (.int .i64 (L[0]?.getD 0)) := by
      have hlt : first < ys.length := by omega
      have : L[0]? = ys[first]? := by rw [← h7, rot_head _ _ hlt]
      rw [this, List.getElem?_eq_getElem hlt]
      simp [intVals, hlt]
    refine (ringI_push_full h1 h2 h3 h6 _ hy x).mono ?_
    rintro e w' ⟨rfl, g1, g2⟩
    refine ⟨by rw [if_neg hl, decide_eq_true (by omega)], v, ⟨(first + 1) % room, ys.set first x, ?_, h2, h3, by omega, fun h => by omega, Nat.mod_lt _ (by omega), ?_⟩, g2, fun k hk => .inl hk⟩
    · rw [hnl]
      have : intVals (ys.set first x) = (intVals ys).set first (.int .i64 x) := by simp [intVals, List.map_set]
      rw [this]
      exact g1
    · have := rot_push first ys x (by omega)
      rw [hyl, hn, h7] at this
      rw [this]
      unfold Ring.next
      rw [if_neg hl]

theorem ringI_list {w : World} {B r : Nat} {v : Value} {room : Nat} {L : List Int} (h : RingI w B r v room L) :
    Calls Try.prog 129 #[.pointer (some ⟨r, 0, none⟩)] w fun e w' => ∃ p c, e = .returned (.slice p L.length c) ∧ L.length ≤ c ∧ Ints .i64 w' p L ∧ Below w.heap.size w w' := by
  obtain ⟨first, ys, h1, h2, h3, h4, h5, h6, h7⟩ := h
  have hyl : ys.length = L.length := by rw [← h7, rot_len]
  refine (ringI_list_of (q := some ⟨r, 0, none⟩) L (by omega) (fun w' hb => ?_)).mono ?_
  · have := ringI_all (h1.below hb) (by omega) (by omega) (by intro u hu; simp [intVals] at hu; obtain ⟨a, _, rfl⟩ := hu; rfl)
    have e : rot first (intVals ys) = intVals L := by unfold intVals; rw [rot_map, h7]
    rw [e] at this
    exact this
  · rintro e w' ⟨u, rfl, hO, hb⟩
    obtain ⟨p, c, rfl, hc, hs⟩ := ints_of_owns hO
    exact ⟨p, c, rfl, hc, hs, hb⟩
theorem ringI_listNil (w : World) : Calls Try.prog 129 #[.pointer none] w fun e w' => ∃ p c, e = .returned (.slice p 0 c) ∧ Below w.heap.size w w' := by
  refine (ringI_list_of (q := none) [] (by simp) (fun w' hb => ringI_all_nil w')).mono ?_
  rintro e w' ⟨u, rfl, hO, hb⟩
  obtain ⟨p, c, rfl, _⟩ := hO.sl
  exact ⟨p, c, rfl, hb⟩
theorem ringI_roomOf {w : World} {B r : Nat} {v : Value} {room : Nat} {L : List Int} (h : RingI w B r v room L) : Calls Try.prog 164 #[.pointer (some ⟨r, 0, none⟩)] w fun e w' => e = .returned (.int .i64 room) ∧ w = w' := by
  obtain ⟨first, ys, h1, _⟩ := h
  exact ringI_room h1
end Go.Proofs.Ytapgcbjlgekpeaa

/- Layer 44: what a policy would have done, as data; decisions cloned; decisions compared. -/
namespace Go.Proofs.Ytapgcbjlgekpeaa
open Go.ChangeShapes Go.WideShapes Go.ChangeAt Go.RowKit

theorem Advs.news {w : World} {p : Option Addr} {l : List Adv} (h : Advs w p l) : ∀ ad, p = some ad → ∀ j u, (advVals l)[j]? = some u → w.cell? (ad.add j) = some u := by
  intro ad hp j u hu
  have hj : j < l.length * 5 := by
    have := (List.getElem?_eq_some_iff.1 hu).1
    rwa [advVals_len] at this
  rcases h with h | ⟨b, off, h, _, hc⟩
  · omega
  · rw [hp] at h
    cases h
    have hadd : (⟨b, off, none⟩ : Addr).add j = ⟨b, off + j, none⟩ := by unfold Addr.add; split <;> simp_all
    rw [hadd, hc j hj, ← advVals_get l j hj]
    exact hu
theorem advVals_one : ∀ (l : List Adv), ∀ u ∈ advVals l, u.oneCell' = true
  | [], u, h => by cases h
  | a :: l, u, h => by
    simp only [advVals, List.mem_cons] at h
    rcases h with rfl | rfl | rfl | rfl | rfl | h
    · rfl
    · rfl
    · rfl
    · rfl
    · rfl
    · exact advVals_one l u h
/-- Decisions in a row of their own. -/
theorem advs_alloc (w : World) (l : List Adv) (T : TypeId) (cs : Array Value) (h : cs = (advVals l).toArray) : Advs (w.alloc (.cells cs T)) (some ⟨w.heap.size, 0, none⟩) l := by
  subst h
  refine .inr ⟨w.heap.size, 0, rfl, by simp, fun j hj => ?_⟩
  rw [cell_of_row _ w.heap.size (0 + j) _ T (0, 0) (heap_alloc_at _ _ _ rfl), Nat.zero_add]
  simpa using advVals_get l j hj

/-- Decisions in blocks between A and B. -/
def AdvsIn (A B : Nat) (w : World) (q : Option Addr) (l : List Adv) : Prop := Advs w q l ∧ ∀ ad, q = some ad → A ≤ ad.block ∧ ad.block < B
theorem AdvsIn.below {A B : Nat} {w w' : World} {q : Option Addr} {l : List Adv} (h : AdvsIn A B w q l) (hb : Below w.heap.size w w') : AdvsIn A B w' q l := ⟨h.1.below hb, h.2⟩
theorem AdvsIn.wide {A B A' B' : Nat} {w : World} {q : Option Addr} {l : List Adv} (h : AdvsIn A B w q l) (ha : A' ≤ A) (hb : B ≤ B') : AdvsIn A' B' w q l :=
  ⟨h.1, fun ad had => ⟨Nat.le_trans ha (h.2 ad had).1, Nat.lt_of_lt_of_le (h.2 ad had).2 hb⟩⟩
theorem AdvsIn.same {A B : Nat} {w w' : World} {q : Option Addr} {l : List Adv} (h : AdvsIn A B w q l) (hz : w.heap.size ≤ w'.heap.size) (hk : ∀ k, A ≤ k → k < B → w'.heap[k]? = w.heap[k]?) : AdvsIn A B w' q l := by
  refine ⟨?_, h.2⟩
  rcases h.1 with h0 | ⟨b, off, hp, hb, hc⟩
  · exact .inl h0
  · obtain ⟨h1, h2⟩ := h.2 _ hp
    refine .inr ⟨b, off, hp, Nat.lt_of_lt_of_le hb hz, fun j hj => ?_⟩
    rw [← hc j hj]
    unfold World.cell?
    simp only
    rw [hk b h1 h2]
theorem AdvsIn.setRow {A B : Nat} {w : World} {q : Option Addr} {l : List Adv} (h : AdvsIn A B w q l) (b : Nat) (hb : b < A ∨ B ≤ b) (cs : Array Value) : AdvsIn A B (w.setRow b cs) q l :=
  h.same (below_setRow (Below.refl 0 w) (Nat.zero_le _) cs).size (fun k h1 h2 => setRow_other w b k cs (by omega))
theorem AdvsIn.setCell {A B : Nat} {w : World} {q : Option Addr} {l : List Adv} (h : AdvsIn A B w q l) (b j : Nat) (hb : b < A ∨ B ≤ b) (v : Value) : AdvsIn A B (w.setCell ⟨b, j, none⟩ v) q l :=
  h.same (by simp [World.setCell]) (fun k h1 h2 => Below.heap_setCell _ _ _ _ (by show k ≠ b; omega))

set_option maxRecDepth 100000 in
theorem cloneA (p : Option Addr) (n c : Nat) (l : List Adv) (hn : l.length = n) (hb : n ≤ 100000) (hp : p = none → n = 0 ∧ c = 0) (w : World) (hs : Advs w p l) :
    Calls Try.prog 197 #[.slice p n c] w fun e w' => ∃ q d, e = .returned (.slice q n d) ∧ AdvsIn w.heap.size w'.heap.size w' q l ∧ (q = none → n = 0 ∧ d = 0) ∧ Below w.heap.size w w' := by
  cases p with
  | none =>
    obtain ⟨rfl, rfl⟩ := hp rfl
    have hq : ∀ (w : World), (binOp .eql 38 (.slice none 0 0) (.slice none 0 0)).run Try.prog w = .ok (.bool true) w := fun w => Lib.run_eql_slice_nil w 38 27 none 0 0 0 0 Try.underlying38
    have HS := Lib.hid hs
    clear hs hp
    go_enter Try.func197, Try.ntmps197
    go_wp2
    go_ret
    exact ⟨_, _, rfl, ⟨HS.out, fun _ h => by cases h⟩, by simp, Below.refl _ _⟩
  | some ad =>
    have hq : ∀ (w : World), (binOp .eql 38 (.slice (some ad) n c) (.slice none 0 0)).run Try.prog w = .ok (.bool false) w := fun w => Lib.run_eql_slice_nil w 38 27 (some ad) n c 0 0 Try.underlying38
    have hl := advVals_len l
    rw [hn] at hl
    have HL := Lib.hid hl
    have H1 := Lib.hid (advVals_one l)
    have HC := Lib.hid (hs.below (below1 w (.cells #[] 27))).news
    have O : Hid (Owns (w.alloc (.cells #[] 27)) w.heap.size 5 (.slice (some ⟨w.heap.size, 0, none⟩) 0 0) 0 []) :=
      ⟨rfl, .inr ⟨w.heap.size, 0, rfl, Nat.le_refl _, by simp, Nat.le_refl _, fun j u hu => by simp at hu, fun j hj => by simp at hj⟩⟩
    have HN := Lib.hid hn
    clear hl hs hn hp
    go_enter Try.func197, Try.ntmps197
    go_wp2_with (at_builtin; refine wpList_append_any2 rfl _ _ 38 rfl w.heap.size 27 (.agg #[.int .i64 0, .int .i64 0, .int .i64 0, .int .i64 0, .int .i64 0]) 5 40 Try.underlying38 advInfo rfl (by decide) _ _ _ rfl O.out _ _ _ (advVals l) rfl (by rw [HL.out]) (fun h => by cases h) HC.out H1.out (by unfold maxLen; omega) (by omega) (by simp) ?_; intro u1 x1 ha1 hg1 hw1)
    rw [Nat.zero_add, List.nil_append, ← HN.out] at ha1
    obtain ⟨q, d, rfl, hd, hq1⟩ := advs_of_owns ha1
    rw [HN.out]
    have HQ1 := Lib.hid hq1
    have HA := Lib.hid ha1
    have HG := Lib.hid hg1
    clear hq1 ha1 hg1 hd
    go_ret
    refine ⟨_, _, rfl, ⟨HQ1.out, fun ad h => ?_⟩, fun h => ?_, (below1 w _).grown HG.out (by simp) (fun k hk => Nat.le_of_eq (Option.some.inj (show some w.heap.size = some k from hk)))⟩
    · subst h
      rcases HA.out.2 with ⟨h, h2⟩ | ⟨g, cap, h, h3, h4, _⟩
      · cases h
      · injection h with h5
        injection h5 with h5
        subst h5
        exact ⟨h3, h4⟩
    subst h
    rcases HA.out.2 with ⟨h, h2⟩ | ⟨g, cap, h, _⟩
    · injection h with h3 h4 h5
      rw [HN.out] at h2
      exact ⟨h2, h5⟩
    · cases h

theorem Advs.at {w : World} {b off : Nat} {l : List Adv} (h : Advs w (some ⟨b, off, none⟩) l) (k : Nat) (hk : k < l.length) :
    w.cell? ⟨b, off + k * 5, none⟩ = some (.int .i64 (l[k]?.getD default).tick) ∧ w.cell? ⟨b, off + k * 5 + 1, none⟩ = some (.int .i64 (l[k]?.getD default).load) ∧
      w.cell? ⟨b, off + k * 5 + 2, none⟩ = some (.int .i64 (l[k]?.getD default).want) ∧ w.cell? ⟨b, off + k * 5 + 3, none⟩ = some (.int .i64 (l[k]?.getD default).repl) ∧ w.cell? ⟨b, off + k * 5 + 4, none⟩ = some (.int .i64 (l[k]?.getD default).why) := by
  obtain ⟨b', off', e, _, h2⟩ := h.cells k hk
  simp only [Option.some.injEq, Addr.mk.injEq] at e
  obtain ⟨rfl, rfl, _⟩ := e
  exact h2

set_option maxHeartbeats 1000000 in
set_option maxRecDepth 100000 in
/-- Two lists that are one: alike. -/
theorem ref14_same (p q : Option Addr) (n c d : Nat) (l : List Adv) (hn : l.length = n) (hb : n ≤ 9223372036854775807) (w : World) (hs : Advs w p l) (ht : Advs w q l) :
    Calls Try.prog 88 #[.slice p n c, .slice q n d] w fun e w' => e = .returned (.bool true) ∧ Below w.heap.size w w' := by
  by_cases h0 : n = 0
  · subst h0
    clear hs ht
    go_enter Try.func88, Try.ntmps88
    go_wp2
    go_loopw [5] (fun i wr => i = .int .i64 0 ∧ Below w.heap.size w wr) (fun i _ => 0)
    case atStart => exact ⟨rfl, Below.refl _ _⟩
    case round =>
      obtain ⟨rfl, hB⟩ := hrel
      have HB := Lib.hid hB
      clear hB
      go_wp2
      go_ret
      exact ⟨rfl, HB.out⟩
  obtain ⟨b, off, rfl, hbw, _⟩ := hs.cells 0 (by omega)
  obtain ⟨b2, off2, rfl, hbw2, _⟩ := ht.cells 0 (by omega)
  have HS := Lib.hid hs
  have HT := Lib.hid ht
  have HN := Lib.hid hn
  have hst := stab_and (stab_below (B := w.heap.size) (w0 := w) (Nat.le_refl _)) (stab_pure True)
  clear hs ht hn hbw hbw2
  go_enter Try.func88, Try.ntmps88
  go_wp2
  go_loopw [5] (fun i wr => ∃ k : Nat, k ≤ n ∧ i = .int .i64 k ∧ Below w.heap.size w wr) (fun i _ => n - (intOf i).toNat)
  case atStart => exact ⟨0, by omega, rfl, Below.refl _ _⟩
  case round =>
    obtain ⟨k, hk, rfl, hB⟩ := hrel
    have HB := Lib.hid hB
    clear hB
    by_cases hlt : k < n
    · have A1 := Lib.hid (fun W : World => fun h : Below w.heap.size w W => (HS.out.below h).at k (by have := HN.out; omega))
      have A2 := Lib.hid (fun W : World => fun h : Below w.heap.size w W => (HT.out.below h).at k (by have := HN.out; omega))
      obtain ⟨a, ea⟩ : ∃ a, a = l[k]?.getD default := ⟨_, rfl⟩
      simp only [← ea] at A1 A2
      clear ea
      obtain ⟨tick, load, want, repl, why⟩ := a
      simp only at A1 A2
      go_wp2_with fail
      refine wp_region_E mixed [] hst ⟨below_drewN HB.out 1, trivial⟩ ?_
      refine wpAnyE_take 0 rfl (by kernel_rfl) (by kernel_rfl) (by kernel_rfl) (fun _ _ _ h => h) hst (EffB.pure rfl (fun _ => rfl)) (.inr (EffB.pure rfl (fun _ => rfl))) ?_
      simp only [act_norm]
      refine wpAnyE_take 1 rfl (by kernel_rfl) (by kernel_rfl) (by kernel_rfl) (fun _ _ _ h => h) hst (EffB.pure rfl (fun _ => rfl)) (.inr (EffB.pure rfl (fun _ => rfl))) ?_
      simp only [act_norm]
      refine wpAnyE_take 2 (v := .pointer (some ⟨b, off + k * 5, none⟩)) rfl (by kernel_rfl) (by kernel_rfl) (by kernel_rfl) (fun _ _ _ h => h) hst (EffB.run rfl rfl (fun wd hS => ?_)) (.inl (by kernel_rfl)) ?_
      · go_wp2; exact ⟨rfl, Below.refl _ _⟩
      simp only [act_norm]
      refine wpAnyE_take 3 (v := .agg #[.int .i64 tick, .int .i64 load, .int .i64 want, .int .i64 repl, .int .i64 why]) rfl (by kernel_rfl) (by kernel_rfl) (by kernel_rfl) (fun _ _ _ h => h) hst (EffB.run rfl rfl (fun wd hS => ?_)) (.inl (by kernel_rfl)) ?_
      · obtain ⟨c0, c1, c2, c3, c4⟩ := A1.out wd hS.1; go_wp2; exact ⟨rfl, Below.refl _ _⟩
      simp only [act_norm]
      refine wpAnyE_take 4 rfl (by kernel_rfl) (by kernel_rfl) (by kernel_rfl) (fun _ _ _ h => h) hst (EffB.pure rfl (fun _ => rfl)) (.inr (EffB.pure rfl (fun _ => rfl))) ?_
      simp only [act_norm]
      refine wpAnyE_take 5 rfl (by kernel_rfl) (by kernel_rfl) (by kernel_rfl) (fun _ _ _ h => h) hst (EffB.pure rfl (fun _ => rfl)) (.inr (EffB.pure rfl (fun _ => rfl))) ?_
      simp only [act_norm]
      refine wpAnyE_take 6 (v := .pointer (some ⟨b2, off2 + k * 5, none⟩)) rfl (by kernel_rfl) (by kernel_rfl) (by kernel_rfl) (fun _ _ _ h => h) hst (EffB.run rfl rfl (fun wd hS => ?_)) (.inl (by kernel_rfl)) ?_
      · go_wp2; exact ⟨rfl, Below.refl _ _⟩
      simp only [act_norm]
      refine wpAnyE_take 7 (v := .agg #[.int .i64 tick, .int .i64 load, .int .i64 want, .int .i64 repl, .int .i64 why]) rfl (by kernel_rfl) (by kernel_rfl) (by kernel_rfl) (fun _ _ _ h => h) hst (EffB.run rfl rfl (fun wd hS => ?_)) (.inl (by kernel_rfl)) ?_
      · obtain ⟨c0, c1, c2, c3, c4⟩ := A2.out wd hS.1; go_wp2; exact ⟨rfl, Below.refl _ _⟩
      simp only [act_norm]
      refine wpAnyE_take 8 (v := .bool false) rfl (by kernel_rfl) (by kernel_rfl) (by kernel_rfl) (fun _ _ _ h => h) hst (EffB.run rfl rfl (fun wd hS => ?_)) (.inl (by kernel_rfl)) ?_
      · exact wp_neq_agg _ _ _ _ rfl _ _ rfl rfl true (by kernel_rfl) (adv_equal_yes ⟨tick, load, want, repl, why⟩ _) ⟨rfl, Below.refl _ _⟩
      simp only [act_norm]
      refine wpAnyE_done (by kernel_rfl) (fun wd hS => ?_) _
      have HB2 := Lib.hid hS.1
      clear hS HB
      go_wp2
      exact ⟨⟨k + 1, by omega, by go_num, HB2.out⟩, by simp [intOf]; omega⟩
    · obtain rfl : k = n := by omega
      go_wp2
      go_ret
      exact ⟨rfl, HB.out⟩
end Go.Proofs.Ytapgcbjlgekpeaa

/- Layer 14: a ring of decisions, by what it has in order. -/
namespace Go.Proofs.Ytapgcbjlgekpeaa
open Go.ChangeShapes Go.WideShapes Go.ChangeAt Go.RowKit

theorem rot_adv (f : Nat) (l : List Adv) : rot (f * 5) (advVals l) = advVals (rot f l) := by
  have key : ∀ (f : Nat) (l : List Adv), (advVals l).drop (f * 5) = advVals (l.drop f) ∧ (advVals l).take (f * 5) = advVals (l.take f) := by
    intro f
    induction f with
    | zero => intro l; simp [advVals]
    | succ f ih =>
      intro l
      cases l with
      | nil => simp [advVals]
      | cons a l =>
        obtain ⟨h1, h2⟩ := ih l
        rw [show (f + 1) * 5 = f * 5 + 5 by omega]
        exact ⟨h1, by show _ :: _ :: _ :: _ :: _ :: (advVals l).take (f * 5) = _; rw [h2]; rfl⟩
  unfold rot
  rw [advVals_append, (key f l).1, (key f l).2]
theorem rot_getA {α : Type} (f : Nat) (l : List α) (h : f < l.length) (i : Nat) (hi : i < l.length) : (rot f l)[i]? = l[(f + i) % l.length]? := by
  unfold rot
  by_cases h1 : f + i < l.length
  · rw [List.getElem?_append_left (by rw [List.length_drop]; omega), List.getElem?_drop, Nat.mod_eq_of_lt h1]
  · rw [List.getElem?_append_right (by rw [List.length_drop]; omega), List.length_drop, List.getElem?_take_of_lt (by omega)]
    congr 1
    rw [show f + i = (f + i - l.length) + l.length by omega, Nat.add_mod_right, Nat.mod_eq_of_lt (by omega)]
    omega

/-- A ring of decisions that has L, in order. -/
def RingA (w : World) (B r : Nat) (v : Value) (room : Nat) (L : List Adv) : Prop :=
  ∃ first ys, RingAt 236 5 w B r v room first L.length (advVals ys) ∧ 1 ≤ room ∧ room ≤ 4096 ∧ L.length ≤ room ∧ (L.length < room → first = 0) ∧ first < room ∧ rot first ys = L
theorem RingA.below {w w' : World} {B r : Nat} {v : Value} {room : Nat} {L : List Adv} (h : RingA w B r v room L) (hb : Below w.heap.size w w') : RingA w' B r v room L := by
  obtain ⟨f, ys, h1, h2⟩ := h
  exact ⟨f, ys, h1.below hb, h2⟩
theorem RingA.turned {S : Nat → Prop} {w w' : World} {B r : Nat} {v : Value} {room : Nat} {L : List Adv} (h : RingA w B r v room L) (hb : Turned S w w') (h1 : ¬ S r) (h2 : ∀ k, v.ownBlock = some k → ¬ S k) : RingA w' B r v room L := by
  obtain ⟨f, ys, h3, h4⟩ := h
  exact ⟨f, ys, h3.turned hb h1 h2, h4⟩
theorem RingA.lt {w : World} {B r : Nat} {v : Value} {room : Nat} {L : List Adv} (h : RingA w B r v room L) : r < w.heap.size ∧ ∀ k, v.ownBlock = some k → k < w.heap.size := by
  obtain ⟨f, ys, h3, h4⟩ := h
  exact ⟨h3.lt, fun k hk => (h3.owns.lt k hk).2⟩
theorem RingA.apart {w : World} {B r : Nat} {v : Value} {room : Nat} {L : List Adv} (h : RingA w B r v room L) : v.ownBlock ≠ some r ∧ B ≤ r ∧ ∀ k, v.ownBlock = some k → B ≤ k := by
  obtain ⟨f, ys, h3, h4⟩ := h
  exact ⟨h3.apart, h3.low, fun k hk => (h3.owns.lt k hk).1⟩
theorem RingA.len {w : World} {B r : Nat} {v : Value} {room : Nat} {L : List Adv} (h : RingA w B r v room L) : L.length ≤ room ∧ 1 ≤ room ∧ room ≤ 4096 := by
  obtain ⟨f, ys, h3, h4, h5, h6, _⟩ := h
  exact ⟨h6, h4, h5⟩
theorem RingA.pushed {w w' : World} {B r : Nat} {v : Value} {room : Nat} {L : List Adv} (h : RingA w B r v room L) (hB : B ≤ w.heap.size) (ht : Turned (fun k => k = r ∨ v.ownBlock = some k) w w') : Below B w w' :=
  ht.below (fun k hk => by rcases hk with rfl | hk; exact h.apart.2.1; exact h.apart.2.2 k hk) hB

theorem ringA_made (room : Nat) (h1 : 1 ≤ room) (h2 : room ≤ 4096) (w : World) : Calls Try.prog 137 #[.int .i64 room] w fun e w' => ∃ r, e = .returned (.pointer (some ⟨r, 0, none⟩)) ∧ RingA w' w.heap.size r (.slice none 0 0) room [] ∧ Below w.heap.size w w' := by
  refine (ringA_new room h1 h2 w).mono ?_
  rintro e w' ⟨rfl, rfl⟩
  exact ⟨_, rfl, ⟨0, [], ⟨Nat.le_refl _, heap_alloc_at _ _ _ rfl, owns_nil _ _ _, by simp [Value.ownBlock], fun _ => rfl⟩, h1, h2, by simp, fun _ => rfl, by omega, rfl⟩, below1 _ _⟩

theorem ringA_push {w : World} {B r : Nat} {v : Value} {room : Nat} {L : List Adv} (h : RingA w B r v room L) (hB : B ≤ w.heap.size) (x : Adv) :
    Calls Try.prog 174 #[.pointer (some ⟨r, 0, none⟩), .agg #[.int .i64 x.tick, .int .i64 x.load, .int .i64 x.want, .int .i64 x.repl, .int .i64 x.why]] w fun e w' => (∃ u, e = .returned u) ∧
      ∃ v', RingA w' B r v' room (Ring.next room L x) ∧ Turned (fun k => k = r ∨ v.ownBlock = some k) w w' ∧ (∀ k, v'.ownBlock = some k → v.ownBlock = some k ∨ w.heap.size ≤ k) := by
  obtain ⟨first, ys, h1, h2, h3, h4, h5, h6, h7⟩ := h
  have hyl : ys.length = L.length := by rw [← h7, rot_len]
  by_cases hl : L.length < room
  · obtain rfl := h5 hl
    rw [rot_zero] at h7
    subst h7
    refine (ringA_push_grows h1 hl h3 hB x).mono ?_
    rintro e w' ⟨hu, v', g1, g2, g3⟩
    refine ⟨hu, v', ⟨0, ys ++ [x], ?_, h2, h3, ?_, fun _ => rfl, by omega, ?_⟩, g2, g3⟩
    · unfold Ring.next
      rw [if_pos hl, List.length_append, advVals_append]
      exact g1
    · unfold Ring.next
      rw [if_pos hl]
      simp
      omega
    · unfold Ring.next
      rw [if_pos hl, rot_zero]
  · have hn : L.length = room := by omega
    have hnl : (Ring.next room L x).length = room := by
      unfold Ring.next
      rw [if_neg hl]
      simp
      omega
    rw [hn] at h1
    have hlt : first < ys.length := by omega
    refine (ringA_push_full (xs' := advVals (ys.set first x)) h1 h2 h3 h6 ys[first] x (advVals_mid ys first _ (List.getElem?_eq_getElem hlt)) (by rw [advVals_len, advVals_len, List.length_set]) (fun i => ?_)).mono ?_
    · have := advVals_set ys first x i
      rw [if_pos hlt] at this
      exact this
    rintro e w' ⟨hu, g1, g2⟩
    refine ⟨hu, v, ⟨(first + 1) % room, ys.set first x, ?_, h2, h3, by omega, fun h => by omega, Nat.mod_lt _ (by omega), ?_⟩, g2, fun k hk => .inl hk⟩
    · rw [hnl]
      exact g1
    · have := rot_push first ys x (by omega)
      rw [hyl, hn, h7] at this
      rw [this]
      unfold Ring.next
      rw [if_neg hl]

theorem ringA_list {w : World} {B r : Nat} {v : Value} {room : Nat} {L : List Adv} (h : RingA w B r v room L) :
    Calls Try.prog 176 #[.pointer (some ⟨r, 0, none⟩)] w fun e w' => ∃ p c, e = .returned (.slice p L.length c) ∧ L.length ≤ c ∧ Advs w' p L ∧ Below w.heap.size w w' := by
  obtain ⟨first, ys, h1, h2, h3, h4, h5, h6, h7⟩ := h
  have hyl : ys.length = L.length := by rw [← h7, rot_len]
  refine (ringA_list_of (q := some ⟨r, 0, none⟩) L (by omega) (fun w' hb => ?_)).mono ?_
  · have := ringA_all (h1.below hb) (by omega) (by omega) (advVals_one ys)
    have e : rot (first * 5) (advVals ys) = advVals L := by rw [rot_adv, h7]
    rw [e] at this
    exact this
  · rintro e w' ⟨u, rfl, hO, hb⟩
    obtain ⟨p, c, rfl, hc, hs⟩ := advs_of_owns hO
    exact ⟨p, c, rfl, hc, hs, hb⟩
theorem ringA_listNil (w : World) : Calls Try.prog 176 #[.pointer none] w fun e w' => ∃ p c, e = .returned (.slice p 0 c) ∧ Below w.heap.size w w' := by
  refine (ringA_list_of (q := none) [] (by simp) (fun w' hb => ringA_all_nil w')).mono ?_
  rintro e w' ⟨u, rfl, hO, hb⟩
  obtain ⟨p, c, rfl, _⟩ := hO.sl
  exact ⟨p, c, rfl, hb⟩
theorem ringA_roomOf {w : World} {B r : Nat} {v : Value} {room : Nat} {L : List Adv} (h : RingA w B r v room L) : Calls Try.prog 175 #[.pointer (some ⟨r, 0, none⟩)] w fun e w' => e = .returned (.int .i64 room) ∧ w = w' := by
  obtain ⟨first, ys, h1, _⟩ := h
  exact ringA_room h1
end Go.Proofs.Ytapgcbjlgekpeaa

/- Layer 7: a ring of decisions, cloned. -/
namespace Go.Proofs.Ytapgcbjlgekpeaa
open Go.ChangeShapes Go.WideShapes Go.ChangeAt Go.RowKit

set_option maxRecDepth 100000 in
theorem cloneR_nil (w : World) : Calls Try.prog 197 #[.slice none 0 0] w fun e w' => e = .returned (.slice none 0 0) ∧ w = w' := by
  have hq : ∀ (w : World), (binOp .eql 38 (.slice none 0 0) (.slice none 0 0)).run Try.prog w = .ok (.bool true) w := fun w => Lib.run_eql_slice_nil w 38 27 none 0 0 0 0 Try.underlying38
  go_enter Try.func197, Try.ntmps197
  go_wp2
  go_ret
  exact ⟨rfl, rfl⟩
set_option maxRecDepth 100000 in
theorem cloneR_some (g off n c : Nat) (xs : List Value) (hn : n ≤ 100000) (h1 : ∀ u ∈ xs, u.oneCell' = true) (w : World) (hs : Src w (.slice (some ⟨g, off, none⟩) n c) n 5 xs) :
    Calls Try.prog 197 #[.slice (some ⟨g, off, none⟩) n c] w fun e w' => ∃ v, e = .returned v ∧ Owns w' w.heap.size 5 v n xs ∧ Below w.heap.size w w' := by
  have hq : ∀ (w : World), (binOp .eql 38 (.slice (some ⟨g, off, none⟩) n c) (.slice none 0 0)).run Try.prog w = .ok (.bool false) w := fun w => Lib.run_eql_slice_nil w 38 27 (some ⟨g, off, none⟩) n c 0 0 Try.underlying38
  obtain ⟨p', c', e', hl, hz, hsc⟩ := hs.below (below1 w (.cells #[] 27))
  obtain ⟨rfl, rfl⟩ : p' = some ⟨g, off, none⟩ ∧ c' = c := by simp at e'; exact ⟨e'.1.symm, e'.2.symm⟩
  have HL := Lib.hid hl
  have HC := Lib.hid (fun ad h => (hsc ad h).2)
  have H1 := Lib.hid h1
  have O : Hid (Owns (w.alloc (.cells #[] 27)) w.heap.size 5 (.slice (some ⟨w.heap.size, 0, none⟩) 0 0) 0 []) :=
    ⟨rfl, .inr ⟨w.heap.size, 0, rfl, Nat.le_refl _, by simp, Nat.le_refl _, fun j u hu => by simp at hu, fun j hj => by simp at hj⟩⟩
  clear hl hz hsc e' hs h1
  go_enter Try.func197, Try.ntmps197
  go_wp2_with (at_builtin; refine wpList_append_any2 rfl _ _ 38 rfl w.heap.size 27 (.agg #[.int .i64 0, .int .i64 0, .int .i64 0, .int .i64 0, .int .i64 0]) 5 40 Try.underlying38 advInfo rfl (by decide) _ _ _ rfl O.out _ _ _ xs rfl (by rw [HL.out]) (fun h => by cases h) HC.out H1.out (by unfold maxLen; omega) (by omega) (by simp) ?_; intro u1 x1 ha1 hg1 hw1)
  go_ret
  exact ⟨_, rfl, by simpa using ha1, (below1 w _).grown hg1 (by simp) (fun k hk => Nat.le_of_eq (Option.some.inj (show some w.heap.size = some k from hk)))⟩

theorem RingAt.src5 {TR : TypeId} {w : World} {B r : Nat} {v : Value} {room first n : Nat} {xs : List Value} (h : RingAt TR 5 w B r v room first n xs) : Src w v n 5 xs := by
  by_cases h0 : n = 0
  · subst h0
    obtain rfl := h.void rfl
    obtain rfl : xs = [] := List.eq_nil_of_length_eq_zero (by simpa using h.owns.1)
    exact src_nil _ _
  · obtain ⟨g, cap, rfl, _⟩ := h.slice (by omega)
    have := (Owns.src5 h.owns 0 (by omega)).1
    simpa using this

set_option maxHeartbeats 2000000 in
set_option maxRecDepth 100000 in
theorem ringA_clone_at {w : World} {B r : Nat} {v : Value} {room first n : Nat} {xs : List Value} (h : RingAt 236 5 w B r v room first n xs)
    (hcl : ∀ w', Src w' v n 5 xs → Calls Try.prog 197 #[v] w' fun e w'' => ∃ u, e = .returned u ∧ Owns w'' w'.heap.size 5 u n xs ∧ (n = 0 → u = .slice none 0 0) ∧ Below w'.heap.size w' w'') :
    Calls Try.prog 188 #[.pointer (some ⟨r, 0, none⟩)] w fun e w' => ∃ r' u, e = .returned (.pointer (some ⟨r', 0, none⟩)) ∧ RingAt 236 5 w' w.heap.size r' u room first n xs ∧ Below w.heap.size w w' := by
  have H := Lib.hid h
  obtain ⟨pv, cv, ev, _⟩ := h.owns.sl
  have hst := stab_and (stab_ring (TR := 236) (sz := 5) (B := B) (r := r) (v := v) (room := room) (first := first) (n := n) (xs := xs)) (stab_below (B := w.heap.size) (w0 := w) (Nat.le_refl _))
  have HC := Lib.hid hcl
  clear h hcl
  subst ev
  go_enter Try.func188, Try.ntmps188
  go_wp2
  refine wp_region_E mixed [] hst (hst _ _ ⟨H.out, Below.refl _ _⟩ (below_drew (Below.refl _ _))) ?_
  refine wpAnyE_take 0 rfl (by kernel_rfl) (by kernel_rfl) (by kernel_rfl) (fun _ _ _ h => h) hst (EffB.pure rfl (fun _ => rfl)) (.inr (EffB.pure rfl (fun _ => rfl))) ?_
  simp only [act_norm]
  refine wpAnyE_take 1 (v := .pointer (some ⟨r, 0, none⟩)) rfl (by kernel_rfl) (by kernel_rfl) (by kernel_rfl) (fun _ _ _ h => h) hst (EffB.run rfl rfl (fun wd hS => ?_)) (.inr (EffB.run rfl rfl (fun wd hS => ?_))) ?_
  · (go_wp2; exact ⟨rfl, Below.refl _ _⟩)
  · (go_wp2; exact ⟨rfl, Below.refl _ _⟩)
  simp only [act_norm]
  refine wpAnyE_take 2 (v := .pointer (some ⟨r, 0, none⟩)) rfl (by kernel_rfl) (by kernel_rfl) (by kernel_rfl) (fun _ _ _ h => h) hst (EffB.run rfl rfl (fun wd hS => ?_)) (.inr (EffB.run rfl rfl (fun wd hS => ?_))) ?_
  · (go_wp2; exact ⟨rfl, Below.refl _ _⟩)
  · (go_wp2; exact ⟨rfl, Below.refl _ _⟩)
  simp only [act_norm]
  refine wpAnyE_take 3 (v := .int .i64 room) rfl (by kernel_rfl) (by kernel_rfl) (by kernel_rfl) (fun _ _ _ h => h) hst (EffB.run rfl rfl (fun wd hS => ?_)) (.inl (by kernel_rfl)) ?_
  · (have c2 : wd.cell? ⟨r, 0, none⟩ = some (.int .i64 room) := by rw [cell_of_row _ _ _ _ _ _ (hS.1.row)]; rfl); go_wp2; exact ⟨rfl, Below.refl _ _⟩
  simp only [act_norm]
  refine wpAnyE_take 4 rfl (by kernel_rfl) (by kernel_rfl) (by kernel_rfl) (fun _ _ _ h => h) hst (EffB.pure rfl (fun _ => rfl)) (.inr (EffB.pure rfl (fun _ => rfl))) ?_
  simp only [act_norm]
  refine wpAnyE_take 5 (v := .pointer (some ⟨r, 0, none⟩)) rfl (by kernel_rfl) (by kernel_rfl) (by kernel_rfl) (fun _ _ _ h => h) hst (EffB.run rfl rfl (fun wd hS => ?_)) (.inr (EffB.run rfl rfl (fun wd hS => ?_))) ?_
  · (go_wp2; exact ⟨rfl, Below.refl _ _⟩)
  · (go_wp2; exact ⟨rfl, Below.refl _ _⟩)
  simp only [act_norm]
  refine wpAnyE_take 6 (v := .pointer (some ⟨r, 1, none⟩)) rfl (by kernel_rfl) (by kernel_rfl) (by kernel_rfl) (fun _ _ _ h => h) hst (EffB.run rfl rfl (fun wd hS => ?_)) (.inr (EffB.run rfl rfl (fun wd hS => ?_))) ?_
  · (go_wp2; exact ⟨rfl, Below.refl _ _⟩)
  · (go_wp2; exact ⟨rfl, Below.refl _ _⟩)
  simp only [act_norm]
  refine wpAnyE_take 7 (v := .int .i64 first) rfl (by kernel_rfl) (by kernel_rfl) (by kernel_rfl) (fun _ _ _ h => h) hst (EffB.run rfl rfl (fun wd hS => ?_)) (.inl (by kernel_rfl)) ?_
  · (have c2 : wd.cell? ⟨r, 1, none⟩ = some (.int .i64 first) := by rw [cell_of_row _ _ _ _ _ _ (hS.1.row)]; rfl); go_wp2; exact ⟨rfl, Below.refl _ _⟩
  simp only [act_norm]
  refine wpAnyE_take 8 rfl (by kernel_rfl) (by kernel_rfl) (by kernel_rfl) (fun _ _ _ h => h) hst (EffB.pure rfl (fun _ => rfl)) (.inr (EffB.pure rfl (fun _ => rfl))) ?_
  simp only [act_norm]
  refine wpAnyE_take 9 (v := .pointer (some ⟨r, 0, none⟩)) rfl (by kernel_rfl) (by kernel_rfl) (by kernel_rfl) (fun _ _ _ h => h) hst (EffB.run rfl rfl (fun wd hS => ?_)) (.inr (EffB.run rfl rfl (fun wd hS => ?_))) ?_
  · (go_wp2; exact ⟨rfl, Below.refl _ _⟩)
  · (go_wp2; exact ⟨rfl, Below.refl _ _⟩)
  simp only [act_norm]
  refine wpAnyE_take 10 (v := .pointer (some ⟨r, 2, none⟩)) rfl (by kernel_rfl) (by kernel_rfl) (by kernel_rfl) (fun _ _ _ h => h) hst (EffB.run rfl rfl (fun wd hS => ?_)) (.inr (EffB.run rfl rfl (fun wd hS => ?_))) ?_
  · (go_wp2; exact ⟨rfl, Below.refl _ _⟩)
  · (go_wp2; exact ⟨rfl, Below.refl _ _⟩)
  simp only [act_norm]
  refine wpAnyE_take 11 (v := .slice pv n cv) rfl (by kernel_rfl) (by kernel_rfl) (by kernel_rfl) (fun _ _ _ h => h) hst (EffB.run rfl rfl (fun wd hS => ?_)) (.inl (by kernel_rfl)) ?_
  · (have c2 : wd.cell? ⟨r, 2, none⟩ = some (.slice pv n cv) := by rw [cell_of_row _ _ _ _ _ _ (hS.1.row)]; rfl); go_wp2; exact ⟨rfl, Below.refl _ _⟩
  simp only [act_norm]
  refine wpAnyE_one 12 rfl (by kernel_rfl) rfl (fun wd hS => ?_)
  go_wp2_with fail
  (with_reducible refine (HC.out wd hS.1.src5).mono ?_)
  rintro e w2 ⟨u, rfl, hO, hv, hb⟩
  obtain ⟨pu, cu, rfl, _⟩ := hO.sl
  have hst2 := stab_and hst (stab_owns (B := w.heap.size) (sz := 5) (v := .slice pu n cu) (n := n) (xs := xs))
  refine ⟨_, ⟨hst _ _ hS hb, hO.mono hS.2.size⟩, hst2, (by first | exact fun _ h => h.1 | exact .inr fun _ h => h.1), ?_⟩
  try simp only [act_norm]
  have HV := Lib.hid hv
  clear hS hO hb hst hv
  have hst := hst2
  refine wpAnyE_take 13 (v := .agg #[.int .i64 room, .int .i64 first, .slice pu n cu]) rfl (by kernel_rfl) (by kernel_rfl) (by kernel_rfl) (fun _ _ _ h => h) hst (EffB.run rfl rfl (fun wd hS => ?_)) (.inr (EffB.run rfl rfl (fun wd hS => ?_))) ?_
  · (go_wp2; exact ⟨rfl, Below.refl _ _⟩)
  · (go_wp2; exact ⟨rfl, Below.refl _ _⟩)
  simp only [act_norm]
  refine wpAnyE_one 14 rfl (by kernel_rfl) rfl (fun wd hS => ?_)
  have hra : RingAt 236 5 (wd.alloc (.cells #[.int .i64 room, .int .i64 first, .slice pu n cu] 236)) w.heap.size wd.heap.size (.slice pu n cu) room first n xs :=
    ⟨hS.1.2.size, heap_alloc_at _ _ _ rfl, hS.2.below (below1 _ _), fun e => by have := (hS.2.lt _ e).2; omega, HV.out⟩
  have hbl : Below w.heap.size w (wd.alloc (.cells #[.int .i64 room, .int .i64 first, .slice pu n cu] 236)) := hS.1.2.alloc hS.1.2.size _
  have x0 := hst _ _ hS (below1 wd (.cells #[.int .i64 room, .int .i64 first, .slice pu n cu] 236))
  have X := Lib.hid (And.intro x0 (And.intro hra hbl))
  have hst4 := stab_and hst (stab_and (stab_ring (TR := 236) (sz := 5) (B := w.heap.size) (r := wd.heap.size) (v := .slice pu n cu) (room := room) (first := first) (n := n) (xs := xs)) (stab_below (B := w.heap.size) (w0 := w) (Nat.le_refl _)))
  clear hS hra hbl x0
  go_wp2
  refine ⟨_, X.out, hst4, fun _ h => h.1, ?_⟩
  obtain ⟨X2, hX2⟩ : ∃ X, wd.heap.size = X := ⟨_, rfl⟩
  rw [hX2] at hst4 ⊢
  clear X hst hX2
  try simp only [act_norm]
  have hst := hst4
  refine wpAnyE_take 15 rfl (by kernel_rfl) (by kernel_rfl) (by kernel_rfl) (fun _ _ _ h => h) hst (EffB.pure rfl (fun _ => rfl)) (.inr (EffB.pure rfl (fun _ => rfl))) ?_
  simp only [act_norm]
  refine wpAnyE_done (by kernel_rfl) (fun wd4 hS => ?_) _
  go_wp2
  go_ret
  exact ⟨_, _, rfl, hS.2.1, hS.2.2⟩

theorem ringA_clone {w : World} {B r : Nat} {v : Value} {room : Nat} {L : List Adv} (h : RingA w B r v room L) :
    Calls Try.prog 188 #[.pointer (some ⟨r, 0, none⟩)] w fun e w' => ∃ r' u, e = .returned (.pointer (some ⟨r', 0, none⟩)) ∧ RingA w' w.heap.size r' u room L ∧ Below w.heap.size w w' := by
  obtain ⟨first, ys, h1, h2, h3, h4, h5, h6, h7⟩ := h
  refine (ringA_clone_at h1 (fun w' hs => ?_)).mono ?_
  · by_cases h0 : L.length = 0
    · rw [h0] at h1 hs ⊢
      obtain rfl := h1.void rfl
      have hx : advVals ys = [] := List.eq_nil_of_length_eq_zero (by have := h1.owns.1; simpa using this)
      rw [hx]
      refine (cloneR_nil w').mono ?_
      rintro e w2 ⟨rfl, rfl⟩
      exact ⟨_, rfl, owns_nil _ _ _, fun _ => rfl, Below.refl _ _⟩
    · obtain ⟨g, cap, rfl, _⟩ := h1.slice (by omega)
      refine (cloneR_some g 0 L.length cap (advVals ys) (by omega) (advVals_one ys) w' hs).mono ?_
      rintro e w2 ⟨u, rfl, hO, hb⟩
      exact ⟨u, rfl, hO, fun h => by omega, hb⟩
  · rintro e w' ⟨r', u, rfl, hr, hb⟩
    exact ⟨r', u, rfl, ⟨first, ys, hr, h2, h3, h4, h5, h6, h7⟩, hb⟩
theorem ringA_clone_none (w : World) : Calls Try.prog 188 #[.pointer none] w fun e w' => e = .returned (.pointer none) ∧ w = w' := by
  go_enter Try.func188, Try.ntmps188
  go_wp2
  go_ret
  exact ⟨rfl, rfl⟩
end Go.Proofs.Ytapgcbjlgekpeaa

/- Layer 14: a history. -/
namespace Go.Proofs.Ytapgcbjlgekpeaa
open Go.ChangeShapes Go.WideShapes Go.ChangeAt Go.RowKit

/-- A history that has L, in order. -/
structure HistA (w : World) (B h r : Nat) (v : Value) (room : Nat) (L : List Adv) : Prop where
  low : B ≤ h
  row : w.heap[h]? = some (.cells #[.pointer (some ⟨r, 0, none⟩)] 205 (0, 0))
  ring : RingA w B r v room L
  apart : h ≠ r
  apart2 : v.ownBlock ≠ some h
section
variable {w w' : World} {B h r : Nat} {v : Value} {room : Nat} {L : List Adv}
theorem HistA.below (H : HistA w B h r v room L) (hb : Below w.heap.size w w') : HistA w' B h r v room L := ⟨H.low, (hb.block _ (lt_of_heap H.row)).trans H.row, H.ring.below hb, H.apart, H.apart2⟩
theorem HistA.turned {S : Nat → Prop} (H : HistA w B h r v room L) (hb : Turned S w w') (h0 : ¬ S h) (h1 : ¬ S r) (h2 : ∀ k, v.ownBlock = some k → ¬ S k) : HistA w' B h r v room L :=
  ⟨H.low, (hb.block _ (lt_of_heap H.row) h0).trans H.row, H.ring.turned hb h1 h2, H.apart, H.apart2⟩
theorem HistA.cell (H : HistA w B h r v room L) : w.cell? ⟨h, 0, none⟩ = some (.pointer (some ⟨r, 0, none⟩)) := by rw [cell_of_row _ _ _ _ _ _ H.row]; rfl
theorem HistA.lift {B' : Nat} (H : HistA w B h r v room L) (hB : B' ≤ B) : HistA w B' h r v room L := by
  obtain ⟨f, ys, g1, g2⟩ := H.ring
  exact ⟨Nat.le_trans hB H.low, H.row, ⟨f, ys, ⟨Nat.le_trans hB g1.low, g1.row, g1.owns.mono hB, g1.apart, g1.void⟩, g2⟩, H.apart, H.apart2⟩
theorem stab_hist : Stab (fun w' => HistA w' B h r v room L) := fun _ _ h hb => h.below hb
theorem HistA.pushed (H : HistA w B h r v room L) (hB : B ≤ w.heap.size) (ht : Turned (fun k => k = r ∨ v.ownBlock = some k) w w') : Below B w w' := H.ring.pushed hB ht
end

theorem hist_new_no (room : Int) (h : room < 1 ∨ 64 < room) (w : World) : Calls Try.prog 78 #[.int .i64 room] w fun e w' => e = .returned (.pointer none) ∧ w = w' := by
  by_cases h1 : room < 1
  · clear h
    go_enter Try.func78, Try.ntmps78
    go_wp2
    go_ret
    exact ⟨rfl, rfl⟩
  · have h2 : 64 < room := by omega
    clear h
    go_enter Try.func78, Try.ntmps78
    go_wp2
    go_ret
    exact ⟨rfl, rfl⟩
theorem hist_new (room : Nat) (h1 : 1 ≤ room) (h2 : room ≤ 64) (w : World) : Calls Try.prog 78 #[.int .i64 room] w fun e w' => ∃ h r, e = .returned (.pointer (some ⟨h, 0, none⟩)) ∧ HistA w' w.heap.size h r (.slice none 0 0) room [] ∧ Below w.heap.size w w' := by
  have g := Lib.hid (ringA_made room h1 (by omega))
  have d1 : decide ((room : Int) < 1) = false := decide_eq_false (by omega)
  have d2 : decide ((64 : Int) < room) = false := decide_eq_false (by omega)
  go_enter Try.func78, Try.ntmps78
  go_wp2_with fail
  (with_reducible refine (g.out _).mono ?_)
  rintro e w1 ⟨r, rfl, hr, hb⟩
  have R := Lib.hid hr
  have B1 := Lib.hid hb
  clear hr hb
  go_wp2
  go_ret
  have hlt := R.out.lt
  exact ⟨_, r, rfl, ⟨B1.out.size, heap_alloc_at _ _ _ rfl, R.out.below (below1 _ _), by omega, by simp [Value.ownBlock]⟩, B1.out.alloc B1.out.size _⟩

theorem hist_kept_nil (w : World) : Calls Try.prog 173 #[.pointer none] w fun e w' => e = .returned (.pointer none) ∧ w = w' := by
  go_enter Try.func173, Try.ntmps173
  go_wp2
  go_ret
  exact ⟨rfl, rfl⟩
theorem hist_kept {w : World} {B h r : Nat} {v : Value} {room : Nat} {L : List Adv} (H : HistA w B h r v room L) : Calls Try.prog 173 #[.pointer (some ⟨h, 0, none⟩)] w fun e w' => e = .returned (.pointer (some ⟨r, 0, none⟩)) ∧ w = w' := by
  have c := H.cell
  clear H
  go_enter Try.func173, Try.ntmps173
  go_wp2
  go_ret
  exact ⟨rfl, rfl⟩
theorem hist_list_nil (w : World) : Calls Try.prog 141 #[.pointer none] w fun e w' => ∃ p c, e = .returned (.slice p 0 c) ∧ Below w.heap.size w w' := by
  have h1 := Lib.hid hist_kept_nil
  have h2 := Lib.hid ringA_listNil
  go_enter Try.func141, Try.ntmps141
  go_wp2_with (first | ((with_reducible refine (h1.out _).mono ?_); rintro e w1 ⟨rfl, rfl⟩) | ((with_reducible refine (h2.out _).mono ?_); rintro e w1 ⟨p, c, rfl, hb⟩))
  go_ret
  exact ⟨p, c, rfl, hb⟩
theorem hist_list {w : World} {B h r : Nat} {v : Value} {room : Nat} {L : List Adv} (H : HistA w B h r v room L) : Calls Try.prog 141 #[.pointer (some ⟨h, 0, none⟩)] w fun e w' => ∃ p c, e = .returned (.slice p L.length c) ∧ L.length ≤ c ∧ Advs w' p L ∧ Below w.heap.size w w' := by
  have h1 := Lib.hid (hist_kept H)
  have h2 := Lib.hid (ringA_list H.ring)
  clear H
  go_enter Try.func141, Try.ntmps141
  go_wp2_with (first | ((with_reducible refine h1.out.mono ?_); rintro e w1 ⟨rfl, rfl⟩) | ((with_reducible refine h2.out.mono ?_); rintro e w1 ⟨p, c, rfl, hc, hs, hb⟩))
  go_ret
  exact ⟨p, c, rfl, hc, hs, hb⟩

theorem hist_clone_nil (w : World) : Calls Try.prog 168 #[.pointer none] w fun e w' => e = .returned (.pointer none) ∧ w = w' := by
  go_enter Try.func168, Try.ntmps168
  go_wp2
  go_ret
  exact ⟨rfl, rfl⟩
theorem hist_clone {w : World} {B h r : Nat} {v : Value} {room : Nat} {L : List Adv} (H : HistA w B h r v room L) :
    Calls Try.prog 168 #[.pointer (some ⟨h, 0, none⟩)] w fun e w' => ∃ h' r' u, e = .returned (.pointer (some ⟨h', 0, none⟩)) ∧ HistA w' w.heap.size h' r' u room L ∧ Below w.heap.size w w' := by
  have c := H.cell
  have h2 := Lib.hid (ringA_clone H.ring)
  clear H
  go_enter Try.func168, Try.ntmps168
  go_wp2_with fail
  (with_reducible refine h2.out.mono ?_)
  rintro e w1 ⟨r', u, rfl, hr, hb⟩
  have R := Lib.hid hr
  have B1 := Lib.hid hb
  clear hr hb
  go_wp2
  go_ret
  have hlt := R.out.lt
  exact ⟨_, r', u, rfl, ⟨B1.out.size, heap_alloc_at _ _ _ rfl, R.out.below (below1 _ _), by omega, fun e => by have := hlt.2 _ e; omega⟩, B1.out.alloc B1.out.size _⟩

set_option maxRecDepth 100000 in
theorem hist_add_nil (a : Adv) (w : World) : Calls Try.prog 140 #[.pointer none, .agg #[.int .i64 a.tick, .int .i64 a.load, .int .i64 a.want, .int .i64 a.repl, .int .i64 a.why]] w fun e w' => e = .returned (.bool false) ∧ Below w.heap.size w w' := by
  have h1 := Lib.hid hist_kept_nil
  have h2 := Lib.hid (ringA_push_nil a)
  have h3 := Lib.hid ringA_room_nil
  have hst := stab_and (stab_below (B := w.heap.size) (w0 := w) (Nat.le_refl _)) (stab_heap w.heap.size (.cells #[.int .i64 a.tick, .int .i64 a.load, .int .i64 a.want, .int .i64 a.repl, .int .i64 a.why] 27 (0, 0)))
  go_enter Try.func140, Try.ntmps140
  go_wp2_with fail
  refine wp_region_E mixed [] hst ⟨below_drew (below1 _ _), heap_alloc_at _ _ _ rfl⟩ ?_
  refine wpAnyE_take 0 rfl (by kernel_rfl) (by kernel_rfl) (by kernel_rfl) (fun _ _ _ h => h) hst (EffB.pure rfl (fun _ => rfl)) (.inr (EffB.pure rfl (fun _ => rfl))) ?_
  simp only [act_norm]
  refine wpAnyE_take 1 (v := .pointer none) rfl (by kernel_rfl) (by kernel_rfl) (by kernel_rfl) (fun _ _ _ h => h) hst (EffB.run rfl rfl (fun wd hS => ?_)) (.inl (by kernel_rfl)) ?_
  · (go_wp2_with fail; (with_reducible refine (h1.out wd).mono ?_); rintro e w'' ⟨rfl, rfl⟩; exact ⟨rfl, Below.refl _ _⟩)
  simp only [act_norm]
  refine wpAnyE_take 2 (v := .agg #[.int .i64 a.tick, .int .i64 a.load, .int .i64 a.want, .int .i64 a.repl, .int .i64 a.why]) rfl (by kernel_rfl) (by kernel_rfl) (by kernel_rfl) (fun _ _ _ h => h) hst (EffB.run rfl rfl (fun wd hS => ?_)) (.inl (by kernel_rfl)) ?_
  · exact wp_load_row 27 _ rfl (w.heap.size) rfl 27 #[.int .i64 a.tick, .int .i64 a.load, .int .i64 a.want, .int .i64 a.repl, .int .i64 a.why] (0, 0) _ (hS.2) Try.underlying27 rfl (by kernel_rfl) ⟨rfl, Below.refl _ _⟩
  simp only [act_norm]
  refine wpAnyE_one 3 rfl (by kernel_rfl) rfl (fun wd hS => ?_)
  go_wp2_with fail
  (with_reducible refine (h2.out _).mono ?_)
  rintro e w2 ⟨⟨u, rfl⟩, hb⟩
  refine ⟨_, hst _ _ hS hb, hst, (by first | exact fun _ h => h | exact .inr fun _ h => h), ?_⟩
  clear hS hb
  try simp only [act_norm]
  refine wpAnyE_done (by kernel_rfl) (fun wd hS => ?_) _
  have HS := Lib.hid hS
  clear hS
  go_wp2_with (first | ((with_reducible refine (h1.out _).mono ?_); rintro e w1 ⟨rfl, rfl⟩) | ((with_reducible refine (h3.out _).mono ?_); rintro e w1 ⟨rfl, rfl⟩))
  go_ret
  exact ⟨rfl, HS.out.1⟩
set_option maxRecDepth 100000 in
theorem hist_add {w : World} {B h r : Nat} {v : Value} {room : Nat} {L : List Adv} (H : HistA w B h r v room L) (hB : B ≤ w.heap.size) (a : Adv) :
    Calls Try.prog 140 #[.pointer (some ⟨h, 0, none⟩), .agg #[.int .i64 a.tick, .int .i64 a.load, .int .i64 a.want, .int .i64 a.repl, .int .i64 a.why]] w fun e w' => e = .returned (.bool true) ∧
      ∃ v', HistA w' B h r v' room (Ring.next room L a) ∧ Turned (fun k => k = r ∨ v.ownBlock = some k) w w' ∧ (∀ k, v'.ownBlock = some k → v.ownBlock = some k ∨ w.heap.size ≤ k) := by
  have HH := H.below (below1 w (.cells #[.int .i64 a.tick, .int .i64 a.load, .int .i64 a.want, .int .i64 a.repl, .int .i64 a.why] 27))
  have hlen := H.ring.len
  have hst := stab_and (stab_hist (B := B) (h := h) (r := r) (v := v) (room := room) (L := L)) (stab_and (stab_below (B := w.heap.size) (w0 := w) (Nat.le_refl _)) (stab_heap w.heap.size (.cells #[.int .i64 a.tick, .int .i64 a.load, .int .i64 a.want, .int .i64 a.repl, .int .i64 a.why] 27 (0, 0))))
  have HLT := Lib.hid H.ring.lt
  have HLH := Lib.hid (lt_of_heap H.row)
  have HAP := Lib.hid H.apart
  have HAP2 := Lib.hid H.apart2
  have HH2 := Lib.hid HH
  clear HH H
  go_enter Try.func140, Try.ntmps140
  go_wp2_with fail
  refine wp_region_E mixed [3] hst ⟨HH2.out.below (below_drew (Below.refl _ _)), below_drew (below1 _ _), heap_alloc_at _ _ _ rfl⟩ ?_
  refine wpAnyE_take 0 rfl (by kernel_rfl) (by kernel_rfl) (by kernel_rfl) (fun _ _ _ h => h) hst (EffB.pure rfl (fun _ => rfl)) (.inr (EffB.pure rfl (fun _ => rfl))) ?_
  simp only [act_norm]
  refine wpAnyE_take 1 (v := .pointer (some ⟨r, 0, none⟩)) rfl (by kernel_rfl) (by kernel_rfl) (by kernel_rfl) (fun _ _ _ h => h) hst (EffB.run rfl rfl (fun wd hS => ?_)) (.inl (by kernel_rfl)) ?_
  · (go_wp2_with fail; (with_reducible refine (hist_kept hS.1).mono ?_); rintro e w'' ⟨rfl, rfl⟩; exact ⟨rfl, Below.refl _ _⟩)
  simp only [act_norm]
  refine wpAnyE_take 2 (v := .agg #[.int .i64 a.tick, .int .i64 a.load, .int .i64 a.want, .int .i64 a.repl, .int .i64 a.why]) rfl (by kernel_rfl) (by kernel_rfl) (by kernel_rfl) (fun _ _ _ h => h) hst (EffB.run rfl rfl (fun wd hS => ?_)) (.inl (by kernel_rfl)) ?_
  · exact wp_load_row 27 _ rfl (w.heap.size) rfl 27 #[.int .i64 a.tick, .int .i64 a.load, .int .i64 a.want, .int .i64 a.repl, .int .i64 a.why] (0, 0) _ (hS.2.2) Try.underlying27 rfl (by kernel_rfl) ⟨rfl, Below.refl _ _⟩
  simp only [act_norm]
  refine wpAnyE_one 3 rfl (by kernel_rfl) rfl (fun wd hS => ?_)
  go_wp2_with fail
  (with_reducible refine (ringA_push hS.1.ring (Nat.le_trans hB hS.2.1.size) a).mono ?_)
  rintro e w2 ⟨⟨u, rfl⟩, v', hr', ht, hw⟩
  have hlw := HLT.out
  have hlh := HLH.out
  have ht2 : Turned (fun k => k = r ∨ v.ownBlock = some k) w w2 := (Turned.of_below hS.2.1).trans ht (fun k _ h => h)
  have hH' : HistA w2 B h r v' room (Ring.next room L a) := ⟨hS.1.low, (ht.block _ (lt_of_heap hS.1.row) (fun e => by rcases e with e | e; exact HAP.out e; exact HAP2.out e)).trans hS.1.row, hr', HAP.out, fun e => by rcases hw _ e with h1 | h1; exact HAP2.out h1; have := hS.2.1.size; omega⟩
  have X := Lib.hid (And.intro hH' ht2)
  have HW : Hid (∀ k, v'.ownBlock = some k → v.ownBlock = some k ∨ w.heap.size ≤ k) := fun k hk => (hw k hk).imp id (fun h => Nat.le_trans hS.2.1.size h)
  have hst2 := stab_and (stab_hist (B := B) (h := h) (r := r) (v := v') (room := room) (L := Ring.next room L a)) (stab_turned (S := fun k => k = r ∨ v.ownBlock = some k) (w := w))
  refine ⟨_, X.out, hst2, ?_⟩
  clear hS hr' ht hw ht2 hH' X hst
  try simp only [act_norm]
  refine wpAnyE_done (by kernel_rfl) (fun wd hS => ?_) _
  have HS := Lib.hid hS
  have F1 := Lib.hid (hist_kept hS.1)
  have F2 := Lib.hid (ringA_roomOf hS.1.ring)
  clear hS hst2
  have d1 : decide ((0 : Int) < room) = true := decide_eq_true (by omega)
  have d2 : decide (0 < room) = true := decide_eq_true (by omega)
  go_wp2_with (first | ((with_reducible refine F1.out.mono ?_); rintro e w1 ⟨rfl, rfl⟩) | ((with_reducible refine F2.out.mono ?_); rintro e w1 ⟨rfl, rfl⟩))
  go_ret
  exact ⟨rfl, v', HS.out.1, HS.out.2, HW.out⟩
end Go.Proofs.Ytapgcbjlgekpeaa
