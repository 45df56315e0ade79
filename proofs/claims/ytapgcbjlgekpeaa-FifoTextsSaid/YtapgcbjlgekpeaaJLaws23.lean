/- Layer 23: the law, walked: what is put comes out in order. -/
import Derived.Test.YtapgcbjlgekpeaaJRef23
import Derived.Test.YtapgcbjlgekpeaaJSamp
namespace Go.Proofs.Ytapgcbjlgekpeaa
open Go.ChangeShapes Go.WideShapes Go.ChangeAt Go.RowKit

/-- A queue of ints that stands in a block of its own. -/
structure Fq (w wr : World) (b : Nat) (v : Value) (L : List Int) : Prop where
  q : QAt wr w.heap.size 1 b 0 #[v] 79 v L.length (intVals L)
  low : w.heap.size ≤ b
  below : Below w.heap.size w wr
theorem Fq.call {w wr w' : World} {b : Nat} {v : Value} {L : List Int} (h : Fq w wr b v L) (hb : Below wr.heap.size wr w') : Fq w w' b v L := ⟨h.q.below hb, h.low, h.below.trans (hb.mono h.below.size)⟩
theorem Fq.start (w : World) : Fq w (w.alloc (.cells #[.slice none 0 0] 79)) w.heap.size (.slice none 0 0) [] :=
  ⟨⟨heap_alloc_at _ _ _ rfl, rfl, ownsO_nil _ _ _, by simp [Value.ownBlock]⟩, Nat.le_refl _, below1 _ _⟩
/-- What a call that turns the queue leaves. -/
def FqOf (w wr : World) (b : Nat) (v : Value) (L2 : List Int) (w' : World) : Prop := ∃ u, Fq w w' b u L2 ∧ Turned (fun k => k = b ∨ v.ownBlock = some k) wr w' ∧ (∀ k, u.ownBlock = some k → v.ownBlock = some k ∨ wr.heap.size ≤ k)
theorem Fq.of {w wr w' : World} {b : Nat} {v : Value} {L L2 : List Int} (h : Fq w wr b v L) (hq : QOf wr w.heap.size 1 b 0 #[v] 79 v L2.length (intVals L2) w') : FqOf w wr b v L2 w' := by
  obtain ⟨u, h1, h2, h3⟩ := hq
  refine ⟨u, ⟨h1, h.low, h.below.trans (h2.below (fun k hk => ?_) h.below.size)⟩, h2, h3⟩
  rcases hk with rfl | hk
  · exact h.low
  · exact (h.q.owns.lt k hk).1
/-- A list beside a queue. -/
structure Fl (wr : World) (b : Nat) (v : Value) (q : Option Addr) (c : Nat) (L : List Int) : Prop where
  ints : Ints .i64 wr q L
  cap : L.length ≤ c
  void : q = none → L.length = 0 ∧ c = 0
  lt : ∀ ad, q = some ad → ad.block < wr.heap.size ∧ ad.block ≠ b ∧ v.ownBlock ≠ some ad.block
section
variable {w wr w' : World} {b c : Nat} {v u : Value} {q : Option Addr} {L : List Int}
theorem Fl.call (h : Fl wr b v q c L) (hb : Below wr.heap.size wr w') : Fl w' b v q c L := ⟨Sl.below h.ints hb, h.cap, h.void, fun ad e => ⟨Nat.lt_of_lt_of_le (h.lt ad e).1 hb.size, (h.lt ad e).2⟩⟩
theorem Ints.turnedF {S : Nat → Prop} {w w' : World} {p : Option Addr} {l : List Int} (h : Ints .i64 w p l) (ht : Turned S w w') (hp : ∀ ad, p = some ad → ¬ S ad.block) : Ints .i64 w' p l := by
  rcases h with h0 | ⟨b, off, rfl, hb, hc⟩
  · exact .inl h0
  · refine .inr ⟨b, off, rfl, Nat.lt_of_lt_of_le hb ht.size, fun j hj => ?_⟩
    rw [← hc j hj]
    unfold World.cell?
    simp only
    rw [ht.block b hb (hp _ rfl)]
theorem Fl.turned (h : Fl wr b v q c L) (ht : Turned (fun k => k = b ∨ v.ownBlock = some k) wr w') (hu : ∀ k, u.ownBlock = some k → v.ownBlock = some k ∨ wr.heap.size ≤ k) : Fl w' b u q c L :=
  ⟨Ints.turnedF h.ints ht (fun ad e => by
    obtain ⟨_, h2, h3⟩ := h.lt ad e
    rintro (g | g)
    · exact h2 g
    · exact h3 g), h.cap, h.void, fun ad e => by
    obtain ⟨h1, h2, h3⟩ := h.lt ad e
    refine ⟨Nat.lt_of_lt_of_le h1 ht.size, h2, fun g => ?_⟩
    rcases hu _ g with g | g
    · exact h3 g
    · omega⟩
/-- A new list beside a queue that was there. -/
theorem Fl.new {B : Nat} {L0 : List Int} {x : Value} (hq : Fq w wr b v L0) (ho : Owns w' B 1 x L.length (intVals L)) (hB : wr.heap.size ≤ B) : ∃ q c, x = .slice q L.length c ∧ Fl w' b v q c L := by
  obtain ⟨p, cap, rfl, h1, h2, _⟩ := ho.sl
  obtain ⟨p', cap', e, h3, h4⟩ := ints_of_owns ho
  simp only [Value.slice.injEq, true_and] at e
  obtain ⟨rfl, rfl⟩ := e
  refine ⟨_, _, rfl, h4, h1, h2, fun ad e => ?_⟩
  subst e
  have := ho.lt ad.block rfl
  refine ⟨this.2, fun e => ?_, fun e => ?_⟩
  · have := hq.q.lt; omega
  · have := (hq.q.owns.lt _ e).2; omega
theorem Fl.tail {x : Int} {g o : Nat} (h : Fl wr b v (some ⟨g, o, none⟩) c (x :: L)) (hc : c ≠ 1) : Fl wr b v (some ⟨g, o + 1, none⟩) (c - 1) L := by
  have h1 := Ints.drop h.ints 1
  refine ⟨h1, ?_, fun e => (by cases e), fun ad e => ?_⟩
  · have := h.cap; simp at this; omega
  · obtain rfl : ad = ⟨g, o + 1, none⟩ := by simpa using e.symm
    exact h.lt ⟨g, o, none⟩ rfl
theorem Fl.tail0 {x : Int} {g o : Nat} (h : Fl wr b v (some ⟨g, o, none⟩) 1 (x :: L)) : L = [] ∧ Fl wr b v (some ⟨g, o, none⟩) 0 [] := by
  have := h.cap
  obtain rfl : L = [] := List.length_eq_zero_iff.1 (by simp at this; exact List.length_eq_zero_iff.2 this)
  exact ⟨rfl, .inl rfl, Nat.le_refl _, fun e => (by cases e), h.lt⟩
theorem Fl.head {x : Int} (h : Fl wr b v q c (x :: L)) : ∃ g o, q = some ⟨g, o, none⟩ ∧ wr.cell? ⟨g, o, none⟩ = some (.int .i64 x) := by
  obtain ⟨g, o, e, _, hc⟩ := h.ints.pos (by simp)
  have := hc 0 (by simp)
  rw [Nat.add_zero] at this
  exact ⟨g, o, e, this⟩
end

set_option maxHeartbeats 1000000 in
set_option maxRecDepth 100000 in
theorem awake23 (w : World) : Calls Try.prog 40 #[] w fun e w' => e = .returned (.bool true) ∧ Below w.heap.size w w' := by
  have F0 := Lib.hid (Fq.start w)
  have P0 := Lib.hid (fifoI_put F0.out.q (by simp) F0.out.below.size 5)
  go_enter Try.func40, Try.ntmps40
  go_wp2_with fail
  (with_reducible refine P0.out.mono ?_)
  rintro e w1 ⟨rfl, hq⟩
  obtain ⟨v1, f1, _, _⟩ := F0.out.of hq
  have F1 := Lib.hid f1
  have P1 := Lib.hid (fifoI_put f1.q (by simp) f1.below.size 6)
  clear hq f1 P0 F0
  go_wp2_with fail
  (with_reducible refine P1.out.mono ?_)
  rintro e w2 ⟨rfl, hq⟩
  obtain ⟨v2, f2, _, _⟩ := F1.out.of hq
  have F2 : Hid (Fq w w2 w.heap.size v2 [5, 6]) := f2
  have P2 := Lib.hid (fifoI_get (x := 5) (l := [6]) F2.out.q rfl)
  clear hq f2 P1 F1
  go_wp2_with fail
  (with_reducible refine P2.out.mono ?_)
  rintro e w3 ⟨rfl, hq⟩
  obtain ⟨v3, f3, _, _⟩ := F2.out.of hq
  have F3 : Hid (Fq w w3 w.heap.size v3 [6]) := f3
  have P3 := Lib.hid (fifoI_first (x := 6) (l := []) F3.out.q rfl)
  have P4 := fifoI_drop F3.out.q (by simp) f3.below.size 7
  rw [show decide ((7 : Int) ∈ [(6 : Int)]) = false by decide, show Fi.drop [(6 : Int)] 7 = [6] by decide] at P4
  have P5 := Lib.hid P4
  clear hq f3 P2 P4 F2
  go_wp2_with (first | ((with_reducible refine P3.out.mono ?_); rintro e w4 ⟨rfl, rfl⟩))
  (with_reducible refine P5.out.mono ?_)
  rintro e w5 ⟨rfl, hq⟩
  obtain ⟨v5, f5, _, _⟩ := F3.out.of hq
  have F5 : Hid (Fq w w5 w.heap.size v5 [6]) := f5
  have P6 := Lib.hid (fifoI_len F5.out.q)
  clear hq f5 P3 P5 F3
  go_wp2_with ((with_reducible refine P6.out.mono ?_); rintro e w4 ⟨rfl, rfl⟩)
  go_ret
  exact ⟨rfl, F5.out.below⟩
end Go.Proofs.Ytapgcbjlgekpeaa
