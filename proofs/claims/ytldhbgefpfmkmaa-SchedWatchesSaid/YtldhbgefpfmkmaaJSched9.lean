/- Layer 27: who looks on, as data; what the look does. -/
import Derived.Test.YtldhbgefpfmkmaaJSched5
namespace Go.Proofs.Ytldhbgefpfmkmaa
open Go.ChangeShapes Go.WideShapes Go.ChangeAt Go.RowKit

def Tk.lim (most r : Nat) : Nat := if most = 0 then r else min r most
theorem Tk.rises {n : Nat} {u0 : Int} {T : Nat → Toy} {P : List Int} (k : Nat) : ∀ d, (Tk.at n u0 T P k).r ≤ (Tk.at n u0 T P (k + d)).r
  | 0 => Nat.le_refl _
  | d + 1 => by
    refine Nat.le_trans (Tk.rises k d) ?_
    show (Tk.at n u0 T P (k + d)).r ≤ (Tk.step n u0 (P[k + d]?.getD 0) (Tk.at n u0 T P (k + d))).r
    unfold Tk.step
    split
    · exact Nat.le_refl _
    · split
      · exact Nat.le_refl _
      · exact Nat.le_succ _
def Tk.ofl (n : Nat) (bs : Nat → Option Nat) (c bl : Nat) : Nat → Prop := fun k => Tk.of n bs c k ∨ k = bl
structure LookAt (S : Nat → Prop) (bl : Nat) (most : Int) (w wr : World) (n : Nat) (L : List Int) (r s : Int) : Prop where
  run : RunAt S w wr n L r
  look : wr.heap[bl]? = some (.cells #[.int .i64 s, .int .i64 most] 95 (0, 0))
section
variable {w wr wr' : World} {n : Nat} {bs : Nat → Option Nat} {c bl : Nat} {most : Int} {L : List Int} {r s : Int}
theorem LookAt.below (h : LookAt (Tk.ofl n bs c bl) bl most w wr n L r s) (hb : Below wr.heap.size wr wr') : LookAt (Tk.ofl n bs c bl) bl most w wr' n L r s :=
  ⟨⟨h.run.turned.call hb, (hb.block _ (lt_of_heap h.run.h0)).trans h.run.h0, (hb.block _ (lt_of_heap h.run.h1)).trans h.run.h1, (hb.block _ (lt_of_heap h.run.h2)).trans h.run.h2⟩, (hb.block _ (lt_of_heap h.look)).trans h.look⟩
theorem LookAt.step (h : LookAt (Tk.ofl n bs c bl) bl most w wr n L r s) (hlt : ∀ k, Tk.of n bs c k → k < w.heap.size) (hbl : ¬ Tk.of n bs c bl) {b : Nat} {v u : Value} (hb : Tk.of n bs c b) : LookAt (Tk.ofl n bs c bl) bl most w ((wr.setCell ⟨b, 0, none⟩ v).setCell ⟨c, 0, none⟩ u) n L r s := by
  have h1 := hlt b hb
  have h2 := hlt c (.inl rfl)
  have h3 : bl ≠ c := fun e => hbl (.inl e)
  have h4 : bl ≠ b := fun e => hbl (e ▸ hb)
  refine ⟨⟨(h.run.turned.setCell v (fun _ => .inl hb)).setCell u (fun _ => .inl (.inl rfl)), ?_, ?_, ?_⟩, ?_⟩
  · exact ((Below.heap_setCell _ _ _ _ (by show w.heap.size ≠ c; omega)).trans (Below.heap_setCell _ _ _ _ (by show w.heap.size ≠ b; omega))).trans h.run.h0
  · exact ((Below.heap_setCell _ _ _ _ (by show w.heap.size + 1 ≠ c; omega)).trans (Below.heap_setCell _ _ _ _ (by show w.heap.size + 1 ≠ b; omega))).trans h.run.h1
  · exact ((Below.heap_setCell _ _ _ _ (by show w.heap.size + 2 ≠ c; omega)).trans (Below.heap_setCell _ _ _ _ (by show w.heap.size + 2 ≠ b; omega))).trans h.run.h2
  · exact ((Below.heap_setCell _ _ _ _ h3).trans (Below.heap_setCell _ _ _ _ h4)).trans h.look
theorem LookAt.incr (h : LookAt (Tk.ofl n bs c bl) bl most w wr n L r s) (hbl : bl < w.heap.size) (x : Nat) (v r2 : Int) : LookAt (Tk.ofl n bs c bl) bl most w ((wr.setCell ⟨w.heap.size + 1, x, none⟩ (.int .i64 v)).setCell ⟨w.heap.size + 2, 0, none⟩ (.int .i64 r2)) n (L.set x v) r2 s := by
  refine ⟨⟨(h.run.turned.setCell _ (fun h => by omega)).setCell _ (fun h => by omega), ?_, ?_, ?_⟩, ?_⟩
  · exact ((Below.heap_setCell _ _ _ _ (by show w.heap.size ≠ w.heap.size + 2; omega)).trans (Below.heap_setCell _ _ _ _ (by show w.heap.size ≠ w.heap.size + 1; omega))).trans h.run.h0
  · rw [Below.heap_setCell _ _ _ _ (by show w.heap.size + 1 ≠ w.heap.size + 2; omega), heap_setCell_same _ _ _ _ _ _ h.run.h1, intRow_set]
  · rw [heap_setCell_same _ _ _ _ _ _ ((Below.heap_setCell _ _ _ _ (by show w.heap.size + 2 ≠ w.heap.size + 1; omega)).trans h.run.h2)]; rfl
  · exact ((Below.heap_setCell _ _ _ _ (by show bl ≠ w.heap.size + 2; omega)).trans (Below.heap_setCell _ _ _ _ (by show bl ≠ w.heap.size + 1; omega))).trans h.look
theorem LookAt.seen (d : Nat) (h : LookAt (Tk.ofl n bs c bl) bl most w wr n L r s) (hbl : bl < w.heap.size) (s2 : Int) : LookAt (Tk.ofl n bs c bl) bl most w ((wr.setCell ⟨bl, 0, none⟩ (.int .i64 s2)).drewN d) n L r s2 := by
  refine ⟨⟨(h.run.turned.setCell _ (fun h => .inr rfl)).drewN d, ?_, ?_, ?_⟩, ?_⟩
  · exact (Below.heap_setCell _ _ _ _ (by show w.heap.size ≠ bl; omega)).trans h.run.h0
  · exact (Below.heap_setCell _ _ _ _ (by show w.heap.size + 1 ≠ bl; omega)).trans h.run.h1
  · exact (Below.heap_setCell _ _ _ _ (by show w.heap.size + 2 ≠ bl; omega)).trans h.run.h2
  · show (wr.setCell ⟨bl, 0, none⟩ (.int .i64 s2)).heap[bl]? = _
    rw [heap_setCell_same _ _ _ _ _ _ h.look]; rfl
end
theorem look_neq (bl : Nat) (w : World) : (binOp .neq 97 (.func (.func 49) #[.pointer (some ⟨bl, 0, none⟩)] #[]) .nilFunc).run Try.prog w = .ok (.bool true) w := by kernel_rfl

section
variable (bl : Nat) (s most : Int) (w : World)
theorem look_on (h : w.heap[bl]? = some (.cells #[.int .i64 s, .int .i64 most] 95 (0, 0))) (hs : 0 ≤ s ∧ s ≤ 100000) (hm : s + 1 ≠ most) :
    Calls Try.prog 49 #[.pointer (some ⟨bl, 0, none⟩), .int .i64 (s + 1)] w fun e w' => e = .returned (.bool true) ∧ ∃ d, w' = (w.setCell ⟨bl, 0, none⟩ (.int .i64 (s + 1))).drewN d := by
  have c0 : w.cell? ⟨bl, 0, none⟩ = some (.int .i64 s) := by rw [cell_of_row _ _ _ _ _ _ h]; rfl
  have f0 : w.frozen? ⟨bl, 0, none⟩ = false := frozen_of_row _ _ _ _ _ h
  have h2 : (w.setCell ⟨bl, 0, none⟩ (.int .i64 (s + 1))).heap[bl]? = some (.cells #[.int .i64 (s + 1), .int .i64 most] 95 (0, 0)) := by rw [heap_setCell_same _ _ _ _ _ _ h]; rfl
  have d0 : (w.setCell ⟨bl, 0, none⟩ (.int .i64 (s + 1))).cell? ⟨bl, 0, none⟩ = some (.int .i64 (s + 1)) := by rw [cell_of_row _ _ _ _ _ _ h2]; rfl
  have d1 : (w.setCell ⟨bl, 0, none⟩ (.int .i64 (s + 1))).cell? ⟨bl, 1, none⟩ = some (.int .i64 most) := by rw [cell_of_row _ _ _ _ _ _ h2]; rfl
  clear h h2
  go_enter Try.func49, Try.ntmps49
  go_wp2
  go_quiet (fail)
  go_wp2
  go_ret
  refine ⟨?_, _, rfl⟩
  simp [hm]
theorem look_off (h : w.heap[bl]? = some (.cells #[.int .i64 s, .int .i64 (s + 1)] 95 (0, 0))) (hs : 0 ≤ s ∧ s ≤ 100000) :
    Calls Try.prog 49 #[.pointer (some ⟨bl, 0, none⟩), .int .i64 (s + 1)] w fun e w' => e = .returned (.bool false) ∧ ∃ d, w' = (w.setCell ⟨bl, 0, none⟩ (.int .i64 (s + 1))).drewN d := by
  have c0 : w.cell? ⟨bl, 0, none⟩ = some (.int .i64 s) := by rw [cell_of_row _ _ _ _ _ _ h]; rfl
  have f0 : w.frozen? ⟨bl, 0, none⟩ = false := frozen_of_row _ _ _ _ _ h
  have h2 : (w.setCell ⟨bl, 0, none⟩ (.int .i64 (s + 1))).heap[bl]? = some (.cells #[.int .i64 (s + 1), .int .i64 (s + 1)] 95 (0, 0)) := by rw [heap_setCell_same _ _ _ _ _ _ h]; rfl
  have d0 : (w.setCell ⟨bl, 0, none⟩ (.int .i64 (s + 1))).cell? ⟨bl, 0, none⟩ = some (.int .i64 (s + 1)) := by rw [cell_of_row _ _ _ _ _ _ h2]; rfl
  have d1 : (w.setCell ⟨bl, 0, none⟩ (.int .i64 (s + 1))).cell? ⟨bl, 1, none⟩ = some (.int .i64 (s + 1)) := by rw [cell_of_row _ _ _ _ _ _ h2]; rfl
  clear h h2
  go_enter Try.func49, Try.ntmps49
  go_wp2
  go_quiet (fail)
  go_wp2
  go_ret
  exact ⟨rfl, _, rfl⟩
end
end Go.Proofs.Ytldhbgefpfmkmaa
