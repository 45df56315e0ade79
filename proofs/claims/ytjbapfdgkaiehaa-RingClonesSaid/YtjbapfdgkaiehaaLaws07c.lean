/- Layer 7: the laws, walked: rings that were cloned. -/
import Derived.Test.YtjbapfdgkaiehaaLaws07
import Derived.Test.YtjbapfdgkaiehaaRing2
namespace Go.Proofs.Ytjbapfdgkaiehaa
open Go.ChangeShapes Go.WideShapes Go.ChangeAt Go.RowKit

theorem ringI_listO {w : World} {B r : Nat} {v : Value} {room : Nat} {L : List Int} (h : RingI w B r v room L) :
    Calls Try.prog 34 #[.pointer (some ⟨r, 0, none⟩)] w fun e w' => ∃ p c, e = .returned (.slice p L.length c) ∧ Owns w' w.heap.size 1 (.slice p L.length c) L.length (intVals L) ∧ Below w.heap.size w w' := by
  obtain ⟨first, ys, h1, h2, h3, h4, h5, h6, h7⟩ := h
  have hyl : ys.length = L.length := by rw [← h7, rot_len]
  refine (ringI_list_of (q := some ⟨r, 0, none⟩) L (by omega) (fun w' hb => ?_)).mono ?_
  · have := ringI_all (h1.below hb) (by omega) (by omega) (by intro u hu; simp [intVals] at hu; obtain ⟨a, _, rfl⟩ := hu; rfl)
    have e : rot first (intVals ys) = intVals L := by unfold intVals; rw [rot_map, h7]
    rw [e] at this
    exact this
  · rintro e w' ⟨u, rfl, hO, hb⟩
    obtain ⟨p, c, rfl, _⟩ := hO.sl
    exact ⟨p, c, rfl, hO, hb⟩
theorem Owns.ints {w : World} {B : Nat} {p : Option Addr} {c : Nat} {l : List Int} (h : Owns w B 1 (.slice p l.length c) l.length (intVals l)) : Ints .i64 w p l := by
  obtain ⟨p', c', e, _, hs⟩ := ints_of_owns h
  simp at e
  rw [e.1]
  exact hs
theorem Owns.turned {S : Nat → Prop} {w w' : World} {B sz n : Nat} {v : Value} {xs : List Value} (h : Owns w B sz v n xs) (ht : Turned S w w') (hn : ∀ k, v.ownBlock = some k → ¬ S k) : Owns w' B sz v n xs :=
  h.same ht.size (fun k hk => ht.block k (h.lt k hk).2 (hn k hk))
theorem src_of_ints {w : World} {p : Option Addr} {cap : Nat} {l : List Int} (h : Ints .i64 w p l) (hn : p = none → l.length = 0 ∧ cap = 0) (hl : 0 < l.length) : Src w (.slice p l.length cap) l.length 1 (intVals l) := by
  obtain ⟨b, off, rfl, hb, hc⟩ := h.pos hl
  refine ⟨_, _, rfl, by rw [intVals_len]; omega, hn, fun ad had => ?_⟩
  obtain rfl : ad = ⟨b, off, none⟩ := by simpa using had.symm
  refine ⟨hb, fun j u hu => ?_⟩
  have hj : j < l.length := by have := (List.getElem?_eq_some_iff.1 hu).1; rwa [intVals_len] at this
  have e : (⟨b, off, none⟩ : Addr).add j = ⟨b, off + j, none⟩ := by unfold Addr.add; split <;> simp_all
  rw [e, hc j (by omega)]
  rw [← hu]
  simp [intVals, hj]

/-- What stands between the two loops and behind the second one. -/
structure TwoRings (w wr : World) (B r : Nat) (v : Value) (Bc c : Nat) (u : Value) (vw : Value) (R : Nat) (L1 L2 : List Int) : Prop where
  one : RingI wr B r v R L1
  two : RingI wr Bc c u R L2
  was : Owns wr (c + 1) 1 vw L1.length (intVals L1)
  r1 : r < Bc
  v1 : ∀ k, v.ownBlock = some k → k < Bc
  u1 : ∀ k, u.ownBlock = some k → vw.ownBlock ≠ some k
  low : B ≤ Bc
  below : Below B w wr

theorem TwoRings.push {w wr w' : World} {B r : Nat} {v : Value} {Bc c : Nat} {u u' vw : Value} {R : Nat} {L1 L2 L3 : List Int} (h : TwoRings w wr B r v Bc c u vw R L1 L2) (h2 : RingI w' Bc c u' R L3)
    (ht : Turned (fun k => k = c ∨ u.ownBlock = some k) wr w') (hu : ∀ k, u'.ownBlock = some k → u.ownBlock = some k ∨ wr.heap.size ≤ k) : TwoRings w w' B r v Bc c u' vw R L1 L3 := by
  obtain ⟨one, two, was, r1, v1, u1, low, below⟩ := h
  have hc := two.apart
  refine ⟨one.turned ht ?_ ?_, h2, was.turned ht ?_, r1, v1, ?_, low, below.trans ?_⟩
  · rintro (e | e)
    · omega
    · have := hc.2.2 r e; omega
  · rintro k hk (e | e)
    · have := v1 k hk; omega
    · have := hc.2.2 k e; have := v1 k hk; omega
  · rintro k hk (e | e)
    · have := (was.lt k hk).1; omega
    · exact u1 k e hk
  · intro k hk e
    rcases hu k hk with h' | h'
    · exact u1 k h' e
    · have := (was.lt k e).2; omega
  · have hBw : B ≤ wr.heap.size := by have := one.apart.2.1; have := one.lt.1; omega
    exact ht.below (fun k hk => by rcases hk with rfl | hk; (have := hc.2.1; omega); (have := hc.2.2 k hk; omega)) hBw
theorem TwoRings.call {w wr w' : World} {B r : Nat} {v : Value} {Bc c : Nat} {u vw : Value} {R : Nat} {L1 L2 : List Int} (h : TwoRings w wr B r v Bc c u vw R L1 L2) (hb : Below wr.heap.size wr w') : TwoRings w w' B r v Bc c u vw R L1 L2 := by
  obtain ⟨one, two, was, r1, v1, u1, low, below⟩ := h
  exact ⟨one.below hb, two.below hb, was.below hb, r1, v1, u1, low, below.trans (hb.mono (by have := one.apart.2.1; have := one.lt.1; omega))⟩

set_option maxHeartbeats 2000000 in
set_option maxRecDepth 100000 in
theorem ringClones_bad (room : Int) (hr : room < 1 ∨ 4096 < room) (p q : Option Addr) (cap dap n m : Nat) (hn : n ≤ 60) (hm : m ≤ 60) (w : World) :
    Calls Try.prog 10 #[.int .i64 room, .slice p n cap, .slice q m dap] w fun e w' => e = .returned (.bool true) ∧ Below w.heap.size w w' := by
  have HN := Lib.hid (ringI_new_no room hr)
  have HP := Lib.hid (ringI_push_nil 1)
  have HL := Lib.hid ringI_len_nil
  have HR := Lib.hid ringI_room_nil
  have HLS := Lib.hid ringI_listNil
  have HC := Lib.hid ringI_clone_none
  have d1 : decide ((60 : Int) < n) = false := decide_eq_false (by omega)
  have d2 : decide ((60 : Int) < m) = false := decide_eq_false (by omega)
  clear hr
  go_enter Try.func10, Try.ntmps10
  go_wp2_with fail
  (with_reducible refine (awake07 _).mono ?_)
  rintro e w1 ⟨rfl, hb1⟩
  have B1 := Lib.hid hb1
  clear hb1
  go_wp2_with (first | ((with_reducible refine (HN.out _).mono ?_); rintro e w2 ⟨rfl, rfl⟩) | ((with_reducible refine (HP.out _).mono ?_); rintro e w2 ⟨rfl, rfl⟩) | ((with_reducible refine (HL.out _).mono ?_); rintro e w2 ⟨rfl, rfl⟩) | ((with_reducible refine (HR.out _).mono ?_); rintro e w2 ⟨rfl, rfl⟩))
  (with_reducible refine (HLS.out _).mono ?_)
  rintro e w2 ⟨p2, c2, rfl, hb2⟩
  have B2 := Lib.hid (B1.out.trans (hb2.mono B1.out.size))
  clear hb2
  go_wp2_with ((with_reducible refine (HC.out _).mono ?_); rintro e w3 ⟨rfl, rfl⟩)
  go_ret
  exact ⟨rfl, B2.out⟩

set_option maxHeartbeats 2000000 in
set_option maxRecDepth 100000 in
theorem ringClones_long (room : Int) (p q : Option Addr) (cap dap n m : Nat) (h : 60 < n ∨ 60 < m) (hn : n ≤ 9223372036854775807) (hm : m ≤ 9223372036854775807) (w : World) :
    Calls Try.prog 10 #[.int .i64 room, .slice p n cap, .slice q m dap] w fun e w' => e = .returned (.bool true) ∧ Below w.heap.size w w' := by
  have hnew : ∀ W : World, Calls Try.prog 31 #[.int .i64 room] W fun e w' => ∃ p, e = .returned (.pointer p) ∧ Below W.heap.size W w' := by
    intro W
    by_cases hr : room < 1 ∨ 4096 < room
    · refine (ringI_new_no room hr W).mono ?_
      rintro e w' ⟨rfl, rfl⟩
      exact ⟨_, rfl, Below.refl _ _⟩
    · obtain ⟨R, rfl⟩ : ∃ R : Nat, room = R := ⟨room.toNat, by omega⟩
      refine (ringI_made R (by omega) (by omega) W).mono ?_
      rintro e w' ⟨r, rfl, _, hb⟩
      exact ⟨_, rfl, hb⟩
  have HN := Lib.hid hnew
  clear hnew
  by_cases h1 : 60 < n
  · clear h
    go_enter Try.func10, Try.ntmps10
    go_wp2_with fail
    (with_reducible refine (awake07 _).mono ?_)
    rintro e w1 ⟨rfl, hb1⟩
    have B1 := Lib.hid hb1
    clear hb1
    go_wp2_with fail
    (with_reducible refine (HN.out _).mono ?_)
    rintro e w2 ⟨p2, rfl, hb2⟩
    have B2 := Lib.hid (B1.out.trans (hb2.mono B1.out.size))
    clear hb2
    go_wp2
    go_ret
    exact ⟨rfl, B2.out⟩
  · have h2 : 60 < m := by omega
    clear h
    go_enter Try.func10, Try.ntmps10
    go_wp2_with fail
    (with_reducible refine (awake07 _).mono ?_)
    rintro e w1 ⟨rfl, hb1⟩
    have B1 := Lib.hid hb1
    clear hb1
    go_wp2_with fail
    (with_reducible refine (HN.out _).mono ?_)
    rintro e w2 ⟨p2, rfl, hb2⟩
    have B2 := Lib.hid (B1.out.trans (hb2.mono B1.out.size))
    clear hb2
    go_wp2
    go_ret
    exact ⟨rfl, B2.out⟩
end Go.Proofs.Ytjbapfdgkaiehaa
