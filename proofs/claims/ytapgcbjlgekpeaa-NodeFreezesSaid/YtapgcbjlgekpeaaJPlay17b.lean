/- Layer 17: what stays behind Freeze. -/
import Derived.Test.YtapgcbjlgekpeaaJLaws17g
namespace Go.Proofs.Ytapgcbjlgekpeaa
open Go.ChangeShapes Go.WideShapes Go.ChangeAt Go.RowKit

structure Pf (w W : World) (cr : Array Value) (X X2 B rs rh : Nat) (j0 : NI) (x0 : NS) (p0 : Option Addr) (c0 : Nat) (q0 : Option Addr) (d0 : Nat) (j : NI) (fz : Bool) (y x : NS) (p : Option Addr) (c : Nat) (q : Option Addr) (d : Nat) : Prop where
  pl : Pl w W cr X2 B rs rh j fz y x p c q d
  row0 : W.heap[X]? = some (.cells (x0.val p0 c0 q0 d0) 40 (0, 0))
  nX0 : ¬ j.foot X
  ne : X ≠ X2
  lat0 : LAt (Fo j X2) W p0 c0 q0 d0 x0
  node0 : NodeAt W B j0 rs rh true x0
  n2 : ¬ j0.foot X2
  J : (j = j0 ∧ fz = true) ∨ ∀ k, j.foot k → ¬ j0.foot k
section
variable {w W W' : World} {cr : Array Value} {X X2 B rs rh : Nat} {j0 j j' : NI} {fz fz' : Bool} {x0 y x z : NS} {p0 q0 p q : Option Addr} {c0 d0 c d : Nat}
theorem Pf.call (h : Pf w W cr X X2 B rs rh j0 x0 p0 c0 q0 d0 j fz y x p c q d) (hb : Below W.heap.size W W') : Pf w W' cr X X2 B rs rh j0 x0 p0 c0 q0 d0 j fz y x p c q d :=
  ⟨h.pl.call hb, (hb.block _ (lt_of_heap h.row0)).trans h.row0, h.nX0, h.ne, h.lat0.below hb, h.node0.below hb, h.n2, h.J⟩
theorem stab_pf : Stab (fun W => Pf w W cr X X2 B rs rh j0 x0 p0 c0 q0 d0 j fz y x p c q d) := fun _ _ h hb => h.call hb
theorem LAt.did (l : LAt (Fo j X) W p c q d x) (k : NodeOf W B j fz rs rh fz' z j' W') : LAt (Fo j' X) W' p c q d x := by
  have l1 : LAt (fun n => Fo j X n ∨ Fo j' X n) W p c q d x := l.apart (fun n hn => by
    rcases hn with hn | hn | hn
    · exact .inl hn
    · rcases k.foot2 n hn with g | g
      · exact .inl (.inl g)
      · exact .inr g
    · exact .inl (.inr hn))
  exact (l1.turned k.turned (fun n e => .inl (.inl e.2))).apart (fun n e => .inl (.inr e))
theorem NodeAt.fz_eq (h : NodeAt W B j rs rh fz x) (k : NodeAt W B j rs rh fz' z) : fz = fz' := by
  have e := h.row.symm.trans k.row
  simp only [Option.some.injEq, Obj.cells.injEq] at e
  have e8 := congrArg (fun a : Array Value => a[8]?) e.1
  have g1 : (x.row fz j.s j.h)[8]? = some (.bool fz) := rfl
  have g2 : (z.row fz' j.s j.h)[8]? = some (.bool fz') := rfl
  simp only [g1, g2, Option.some.injEq, Value.bool.injEq] at e8
  exact e8
theorem Pf.did (h : Pf w W cr X X2 B rs rh j0 x0 p0 c0 q0 d0 j fz y x p c q d) (k : NodeOf W B j fz rs rh fz' z j' W') : Pf w W' cr X X2 B rs rh j0 x0 p0 c0 q0 d0 j' fz' z x p c q d := by
  have h0 : NodeAt W' B j0 rs rh true x0 := by
    rcases h.J with ⟨e1, e2⟩ | g
    · exact h.node0.turned k.turned (fun n _ e => by rw [e2] at e; cases e.1)
    · exact h.node0.turned k.turned (fun n hn e => g n e.2 hn)
  refine ⟨h.pl.did k, (k.turned.block X (lt_of_heap h.row0) (fun e => h.nX0 e.2)).trans h.row0, fun e => ?_, h.ne, h.lat0.did k, h0, h.n2, ?_⟩
  · rcases k.foot2 X e with g | g
    · exact h.nX0 g
    · have := lt_of_heap h.row0; omega
  · rcases h.J with ⟨e1, e2⟩ | g
    · rcases k.foot with g | g
      · refine .inr fun n hn hn0 => ?_
        rcases g n hn with g | g
        · rw [e2] at g; cases g.1
        · have := (h.node0.lt n hn0).2; omega
      · rw [e1] at g
        subst g
        exact .inl ⟨rfl, k.node.fz_eq h0⟩
    · refine .inr fun n hn hn0 => ?_
      rcases k.foot2 n hn with g2 | g2
      · exact g n g2 hn0
      · have := (h.node0.lt n hn0).2; omega
theorem Pf.set (h : Pf w W cr X X2 B rs rh j0 x0 p0 c0 q0 d0 j fz y x p c q d) {p' q' : Option Addr} {c' d' : Nat} (l : LAt (Fo j X2) W p' c' q' d' z) : Pf w (W.setRow X2 (z.val p' c' q' d')) cr X X2 B rs rh j0 x0 p0 c0 q0 d0 j fz y z p' c' q' d' := by
  have ht : Turned (fun k => k = X2) W (W.setRow X2 (z.val p' c' q' d')) := turned_setRowN _ _ _
  exact ⟨h.pl.set l, (setRow_other W X2 X _ h.ne).trans h.row0, h.nX0, h.ne, h.lat0.turned ht (fun _ e => .inr e), h.node0.turned ht (fun k hk e => h.n2 (by rw [← show k = X2 from e]; exact hk)), h.n2, h.J⟩
theorem Pf.start (h : Pl w W cr X B rs rh j true x x p c q d) : Pf w (W.alloc (.cells (x.val p c q d) 40)) cr X W.heap.size B rs rh j x p c q d j true x x p c q d := by
  have hb := below1 W (.cells (x.val p c q d) 40)
  have hX := lt_of_heap h.row
  have hf : ¬ j.foot W.heap.size := fun e => by have := (h.node.lt _ e).2; omega
  have hl : LAt (Fo j W.heap.size) (W.alloc (.cells (x.val p c q d) 40)) p c q d x := (h.lat.apart (T := Fo j W.heap.size) (fun n hn => by
    rcases hn with hn | hn
    · exact .inl (.inl hn)
    · exact .inr (by omega))).below hb
  have hx := h.lowX
  exact ⟨⟨h.below.trans (hb.mono h.below.size), (hb.block _ (lt_of_heap h.cfg)).trans h.cfg, heap_alloc_at _ _ _ rfl, h.node.below hb, hl, hf, h.low, by omega⟩, (hb.block _ hX).trans h.row, h.nX, by omega, hl, h.node.below hb, hf, .inl ⟨rfl, rfl⟩⟩
end
end Go.Proofs.Ytapgcbjlgekpeaa
