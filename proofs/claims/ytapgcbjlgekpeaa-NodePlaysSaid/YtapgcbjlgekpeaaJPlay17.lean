/- Layer 17: what stays through the laws' rounds. -/
import Derived.Test.YtapgcbjlgekpeaaJLaws17e
import Derived.Test.YtapgcbjlgekpeaaJOpen17
namespace Go.Proofs.Ytapgcbjlgekpeaa
open Go.ChangeShapes Go.WideShapes Go.ChangeAt Go.RowKit

def Fo (j : NI) (X : Nat) (k : Nat) : Prop := j.foot k ∨ k = X
/-- The config's box, the reference's own cell X, the node. -/
structure Pl (w W : World) (cr : Array Value) (X B rs rh : Nat) (j : NI) (fz : Bool) (y x : NS) (p : Option Addr) (c : Nat) (q : Option Addr) (d : Nat) : Prop where
  below : Below w.heap.size w W
  cfg : W.heap[w.heap.size]? = some (.cells cr 34 (0, 0))
  row : W.heap[X]? = some (.cells (x.val p c q d) 40 (0, 0))
  node : NodeAt W B j rs rh fz y
  lat : LAt (Fo j X) W p c q d x
  nX : ¬ j.foot X
  low : w.heap.size < B
  lowX : w.heap.size < X
section
variable {w W W' : World} {cr : Array Value} {X B rs rh : Nat} {j j' : NI} {fz fz' : Bool} {y x z : NS} {p q : Option Addr} {c d : Nat}
theorem Pl.call (h : Pl w W cr X B rs rh j fz y x p c q d) (hb : Below W.heap.size W W') : Pl w W' cr X B rs rh j fz y x p c q d :=
  ⟨h.below.trans (hb.mono h.below.size), (hb.block _ (lt_of_heap h.cfg)).trans h.cfg, (hb.block _ (lt_of_heap h.row)).trans h.row, h.node.below hb, h.lat.below hb, h.nX, h.low, h.lowX⟩
theorem Pl.lt (h : Pl w W cr X B rs rh j fz y x p c q d) (k : Nat) (hk : Fo j X k) : k < W.heap.size := by
  rcases hk with hk | rfl
  · exact (h.node.lt k hk).2
  · exact lt_of_heap h.row
theorem NodeOf.foot2 {i : NI} {f : Bool} (h : NodeOf W B i f rs rh fz y j W') (k : Nat) (hk : j.foot k) : i.foot k ∨ W.heap.size ≤ k := by
  rcases h.foot with g | g
  · exact (g k hk).imp (fun e => e.2) id
  · rw [g] at hk; exact .inl hk
theorem Pl.did (h : Pl w W cr X B rs rh j fz y x p c q d) (k : NodeOf W B j fz rs rh fz' z j' W') : Pl w W' cr X B rs rh j' fz' z x p c q d := by
  have hb := k.turned.below (B := B) (fun n hn => (h.node.lt n hn.2).1) (Nat.le_trans h.node.low (Nat.le_of_lt (lt_of_heap h.node.row)))
  have h1 : ¬ j'.foot X := fun e => by
    rcases k.foot2 X e with g | g
    · exact h.nX g
    · have := lt_of_heap h.row; omega
  refine ⟨h.below.trans (hb.mono (Nat.le_of_lt h.low)), (hb.block _ h.low).trans h.cfg, (k.turned.block X (lt_of_heap h.row) (fun e => h.nX e.2)).trans h.row, k.node, ?_, h1, h.low, h.lowX⟩
  have l1 : LAt (fun n => Fo j X n ∨ Fo j' X n) W p c q d x := h.lat.apart (fun n hn => by
    rcases hn with hn | hn | hn
    · exact .inl hn
    · rcases k.foot2 n hn with g | g
      · exact .inl (.inl g)
      · exact .inr g
    · exact .inl (.inr hn))
  exact (l1.turned k.turned (fun n e => .inl (.inl e.2))).apart (fun n e => .inl (.inr e))
theorem Pl.set (h : Pl w W cr X B rs rh j fz y x p c q d) {p' q' : Option Addr} {c' d' : Nat} (l : LAt (Fo j X) W p' c' q' d' z) : Pl w (W.setRow X (z.val p' c' q' d')) cr X B rs rh j fz y z p' c' q' d' := by
  have ht : Turned (fun k => k = X) W (W.setRow X (z.val p' c' q' d')) := turned_setRowN _ _ _
  have hX := h.lowX
  refine ⟨below_setRow h.below (by omega) _, (setRow_other W X w.heap.size _ (by omega)).trans h.cfg, setRow_heap _ _ _ _ _ _ h.row, h.node.turned ht (fun k hk e => h.nX (by rw [← show k = X from e]; exact hk)), l.turned ht (fun k e => .inr e), h.nX, h.low, h.lowX⟩
theorem Pl.start (hb : Below w.heap.size w W) (hc : W.heap[w.heap.size]? = some (.cells cr 34 (0, 0))) (hN : NodeAt W B j rs rh fz NS.zero) (hB : w.heap.size < B) : Pl w (W.alloc (.cells zeroLoad 40)) cr W.heap.size B rs rh j fz NS.zero NS.zero none 0 none 0 :=
  ⟨hb.alloc hb.size _, ((below1 W _).block _ (lt_of_heap hc)).trans hc, heap_alloc_at _ _ _ rfl, hN.below (below1 _ _), LAt.zero _ _, fun e => by have := (hN.lt _ e).2; omega, hB, lt_of_heap hc⟩
end
theorem Nac.rangeAt {w W : World} {b off k : Nat} {a : Nac} (h : ∀ i, i < 14 → w.cell? ⟨b, off + k * 14 + i, none⟩ = some (.int .i64 ((a.list[i]?).getD 0))) (hb : b < w.heap.size) (hW : Below w.heap.size w W) : W.rangeAt b (off + k * 14) a.row.toList := fun j v hv => by
  have hj : j < 14 := by
    rcases Nat.lt_or_ge j 14 with h | h
    · exact h
    · rw [List.getElem?_eq_none (by simpa using h)] at hv; simp at hv
  have e := h j hj
  have e2 : W.cell? ⟨b, off + k * 14 + j, none⟩ = w.cell? ⟨b, off + k * 14 + j, none⟩ := World.cell?_of_block (hW.block b hb)
  rw [e2, e]
  match j, hj with
  | 0, _ => exact hv
  | 1, _ => exact hv
  | 2, _ => exact hv
  | 3, _ => exact hv
  | 4, _ => exact hv
  | 5, _ => exact hv
  | 6, _ => exact hv
  | 7, _ => exact hv
  | 8, _ => exact hv
  | 9, _ => exact hv
  | 10, _ => exact hv
  | 11, _ => exact hv
  | 12, _ => exact hv
  | 13, _ => exact hv
theorem NS.act_same (rs rh : Nat) (x : NS) (a : Nac) : (x.act rs rh a).ver = x.ver ∨ (x.act rs rh a).ver = x.ver + 1 := by
  unfold NS.act
  split
  · split
    · exact .inr rfl
    · exact .inl rfl
  · split
    · split
      · exact .inl rfl
      · exact .inr rfl
    · split
      · split
        · exact .inr rfl
        · exact .inl rfl
      · split
        · exact .inr rfl
        · exact .inl rfl
end Go.Proofs.Ytapgcbjlgekpeaa
