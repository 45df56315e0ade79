/- What a call turned: no block but those that S names, and new ones. Rings as memory. -/
import Derived.Test.YtildjnibdappnaaSlice2
import Derived.Test.YtildjnibdappnaaMem2
import Derived.Test.YtildjnibdappnaaEach
namespace Go.Proofs.Ytildjnibdappnaa
open Go.ChangeShapes Go.WideShapes Go.ChangeAt Go.RowKit

structure Turned (S : Nat → Prop) (w w' : World) : Prop where
  os : w'.os = w.os
  tape : w'.tape = w.tape
  output : w'.output = w.output
  size : w.heap.size ≤ w'.heap.size
  block : ∀ k, k < w.heap.size → ¬ S k → w'.heap[k]? = w.heap[k]?
section
variable {S S' : Nat → Prop} {w w' w'' : World}
theorem Turned.refl : Turned S w w := ⟨rfl, rfl, rfl, Nat.le_refl _, fun _ _ _ => rfl⟩
theorem Turned.trans (h : Turned S w w') (k : Turned S' w' w'') (hs : ∀ k, k < w.heap.size → S' k → S k) : Turned S w w'' :=
  ⟨k.os.trans h.os, k.tape.trans h.tape, k.output.trans h.output, Nat.le_trans h.size k.size, fun j hj hn => (k.block j (Nat.lt_of_lt_of_le hj h.size) (fun h' => hn (hs j hj h'))).trans (h.block j hj hn)⟩
theorem Turned.of_below (h : Below w.heap.size w w') : Turned S w w' := ⟨h.os, h.tape, h.output, h.size, fun k hk _ => h.block k hk⟩
theorem Turned.call (h : Turned S w w') (hb : Below w'.heap.size w' w'') : Turned S w w'' := h.trans (Turned.of_below (S := fun _ => False) hb) (fun _ _ h => h.elim)
theorem Turned.alloc (h : Turned S w w') (o : Obj) : Turned S w (w'.alloc o) := h.call (below1 _ _)
theorem Turned.drewN (h : Turned S w w') (n : Nat) : Turned S w (w'.drewN n) := ⟨h.os, h.tape, h.output, h.size, h.block⟩
theorem Turned.setCell (h : Turned S w w') {b j : Nat} (u : Value) (hb : b < w.heap.size → S b) : Turned S w (w'.setCell ⟨b, j, none⟩ u) :=
  ⟨h.os, h.tape, h.output, Nat.le_trans h.size (by simp [World.setCell]), fun k hk hn => (Below.heap_setCell _ _ _ _ (by intro e; subst e; exact hn (hb hk))).trans (h.block k hk hn)⟩
theorem Turned.grown (h : Turned S w w') {row : Option Nat} (hg : w'.grownBy w'' row) (hr : ∀ k, row = some k → k < w.heap.size → S k) : Turned S w w'' :=
  ⟨hg.os.trans h.os, hg.tape.trans h.tape, hg.output.trans h.output, Nat.le_trans h.size hg.size, fun k hk hn => (hg.block k (Nat.lt_of_lt_of_le hk h.size) (fun e => hn (hr k e.symm hk))).trans (h.block k hk hn)⟩
theorem Turned.below {B : Nat} (h : Turned S w w') (hS : ∀ k, S k → B ≤ k) (hB : B ≤ w.heap.size) : Below B w w' :=
  ⟨h.os, h.tape, h.output, h.size, fun k hk => h.block k (Nat.lt_of_lt_of_le hk hB) (fun h' => by have := hS k h'; omega)⟩
theorem Turned.mono (h : Turned S w w') (hS : ∀ k, k < w.heap.size → S k → S' k) : Turned S' w w' := ⟨h.os, h.tape, h.output, h.size, fun k hk hn => h.block k hk (fun h' => hn (hS k hk h'))⟩
theorem stab_turned : Stab (fun w' => Turned S w w') := fun _ _ h hb => h.call hb
end
theorem stab_owns {B sz n : Nat} {v : Value} {xs : List Value} : Stab (fun w' => Owns w' B sz v n xs) := fun _ _ h hb => h.below hb

/-- One element, of one cell, put anew. -/
theorem Owns.put {w : World} {B n g cap : Nat} {xs : List Value} {p : Option Addr} (h : Owns w B 1 (.slice p n cap) n xs) (hg : (Value.slice p n cap).ownBlock = some g) (j : Nat) (u : Value) (hj : j < n) :
    Owns (w.setCell ⟨g, j, none⟩ u) B 1 (.slice p n cap) n (xs.set j u) := by
  obtain ⟨hl, h⟩ := h
  refine ⟨by rw [List.length_set]; exact hl, ?_⟩
  rcases h with ⟨h1, h2⟩ | ⟨g', cap', h1, h2, h3, h4, h5, h6⟩
  · omega
  · refine .inr ⟨g', cap', h1, h2, by simpa [World.setCell] using h3, h4, ?_, ?_⟩
    · have eg : g = g' := by
        simp only [Value.slice.injEq] at h1
        obtain ⟨rfl, _, _⟩ := h1
        simpa [Value.ownBlock] using hg.symm
      subst eg
      intro k x hk
      by_cases hkj : k = j
      · subst hkj
        have hx : x = u := by
          rw [List.getElem?_set_self (by omega)] at hk
          exact (Option.some.inj hk).symm
        subst hx
        obtain ⟨y, hy⟩ := Option.isSome_iff_exists.1 (h6 k (by simp only [Value.slice.injEq] at h1; obtain ⟨_, _, rfl⟩ := h1; omega)).1
        exact World.cell?_setCell_same _ _ _ hy
      · rw [List.getElem?_set_ne (by omega)] at hk
        rw [World.cell?_setCell_other _ _ _ _ (by intro e; injection e with e1 e2; omega)]
        exact h5 k x hk
    · intro k hk
      obtain ⟨a, b⟩ := h6 k hk
      refine ⟨?_, by rw [World.frozen?_setCell]; exact b⟩
      by_cases hx : (⟨g', k, none⟩ : Addr) = ⟨g, j, none⟩
      · obtain ⟨y, hy⟩ := Option.isSome_iff_exists.1 a
        rw [hx] at hy ⊢
        rw [World.cell?_setCell_same _ _ _ hy]
        rfl
      · rw [World.cell?_setCell_other _ _ _ _ (fun e => hx e.symm)]; exact a
theorem Owns.setOther {w : World} {B sz n : Nat} {v : Value} {xs : List Value} (h : Owns w B sz v n xs) {b j : Nat} (u : Value) (hb : v.ownBlock ≠ some b) : Owns (w.setCell ⟨b, j, none⟩ u) B sz v n xs :=
  h.same (by simp [World.setCell]) (fun k hk => Below.heap_setCell _ _ _ _ (by intro e; subst e; exact hb hk))

/-- A ring: its block, and the row of its things. -/
structure RingAt (TR : TypeId) (sz : Nat) (w : World) (B r : Nat) (v : Value) (room first n : Nat) (xs : List Value) : Prop where
  low : B ≤ r
  row : w.heap[r]? = some (.cells #[.int .i64 room, .int .i64 first, v] TR (0, 0))
  owns : Owns w B sz v n xs
  apart : v.ownBlock ≠ some r
  void : n = 0 → v = .slice none 0 0
section
variable {TR : TypeId} {sz : Nat} {w w' : World} {B r : Nat} {v : Value} {room first n : Nat} {xs : List Value}
theorem RingAt.lt (h : RingAt TR sz w B r v room first n xs) : r < w.heap.size := lt_of_heap h.row
theorem RingAt.below (h : RingAt TR sz w B r v room first n xs) (hb : Below w.heap.size w w') : RingAt TR sz w' B r v room first n xs :=
  ⟨h.low, (hb.block _ h.lt).trans h.row, h.owns.below hb, h.apart, h.void⟩
theorem RingAt.same (h : RingAt TR sz w B r v room first n xs) (hs : w.heap.size ≤ w'.heap.size) (h1 : w'.heap[r]? = w.heap[r]?) (h2 : ∀ k, v.ownBlock = some k → w'.heap[k]? = w.heap[k]?) : RingAt TR sz w' B r v room first n xs :=
  ⟨h.low, h1.trans h.row, h.owns.same hs h2, h.apart, h.void⟩
theorem RingAt.turned {S : Nat → Prop} (h : RingAt TR sz w B r v room first n xs) (hb : Turned S w w') (h1 : ¬ S r) (h2 : ∀ k, v.ownBlock = some k → ¬ S k) : RingAt TR sz w' B r v room first n xs :=
  h.same hb.size (hb.block _ h.lt h1) (fun k hk => hb.block _ (h.owns.lt k hk).2 (h2 k hk))
theorem stab_ring : Stab (fun w' => RingAt TR sz w' B r v room first n xs) := fun _ _ h hb => h.below hb
theorem RingAt.cell0 (h : RingAt TR sz w B r v room first n xs) : w.cell? ⟨r, 0, none⟩ = some (.int .i64 room) := by rw [cell_of_row _ _ _ _ _ _ h.row]; rfl
theorem RingAt.cell1 (h : RingAt TR sz w B r v room first n xs) : w.cell? ⟨r, 1, none⟩ = some (.int .i64 first) := by rw [cell_of_row _ _ _ _ _ _ h.row]; rfl
theorem RingAt.cell2 (h : RingAt TR sz w B r v room first n xs) : w.cell? ⟨r, 2, none⟩ = some v := by rw [cell_of_row _ _ _ _ _ _ h.row]; rfl
theorem RingAt.free (h : RingAt TR sz w B r v room first n xs) (j : Nat) : w.frozen? ⟨r, j, none⟩ = false := frozen_of_row _ _ _ _ _ h.row
theorem RingAt.slice (h : RingAt TR sz w B r v room first n xs) (hn : 0 < n) : ∃ g cap, v = .slice (some ⟨g, 0, none⟩) n cap ∧ g ≠ r ∧ B ≤ g ∧ g < w.heap.size ∧ n ≤ cap := by
  obtain ⟨_, h1⟩ := h.owns
  rcases h1 with ⟨_, h2⟩ | ⟨g, cap, h1, h2, h3, h4, _⟩
  · omega
  · exact ⟨g, cap, h1, fun e => h.apart (by rw [h1, e]; rfl), h2, h3, h4⟩
end
end Go.Proofs.Ytildjnibdappnaa
