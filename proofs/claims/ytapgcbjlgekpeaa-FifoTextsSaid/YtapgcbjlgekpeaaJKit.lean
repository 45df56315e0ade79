/- Further laws on slices that a call owns, and on blocks. -/
import Derived.Test.YtapgcbjlgekpeaaJBase
namespace Go.Proofs.Ytapgcbjlgekpeaa
open Go.ChangeShapes Go.WideShapes Go.ChangeAt Go.RowKit

theorem owns_alloc (w : World) (cs : Array Value) (T : TypeId) {B sz n : Nat} (hB : B ≤ w.heap.size) (hcs : cs.size = n * sz) : Owns (w.alloc (.cells cs T)) B sz (.slice (some ⟨w.heap.size, 0, none⟩) n n) n cs.toList := by
  have hh := heap_alloc_at w (.cells cs T) w.heap.size rfl
  refine ⟨by simpa using hcs, .inr ⟨w.heap.size, n, rfl, hB, by simp, Nat.le_refl _, fun j u hu => ?_, fun j hj => ⟨?_, frozen_of_row _ _ _ _ _ hh⟩⟩⟩
  · rw [cell_of_row _ _ _ _ _ _ hh]; simpa using hu
  · rw [cell_of_row _ _ _ _ _ _ hh, Array.getElem?_eq_getElem (by omega)]; rfl

section
variable {P : Program} {ops : Array Oper} {rest : List Oper} {o : Oper} {a : Act} {w : World} {Q : Exit → Act → World → Prop}
/-- Some elements that were just built, appended. -/
theorem wpList_append_newm (hgd : o.guard = none) (s x : Operand) (t : TypeId) (ho : o.op = .call { callee := .builtin .append, args := #[s, x], argTypes := #[t, t] })
    (w0 : World) (cs : Array Value) (T : TypeId) (hw : w = w0.alloc (.cells cs T)) (m : Nat)
    (B : Nat) (e : TypeId) (z : Value) (size bytes : Nat) (ht : P.underlying t = some (.slice e)) (hi : (P.info? e).map (fun i => (i.zero, i.size, i.bytes)) = some (some z, size, bytes)) (hzs : z.cells.size = size) (hsz : 0 < size)
    (v : Value) (n : Nat) (xs : List Value) (hs : a.eval s = v) (hown : Owns w0 B size v n xs)
    (hx : a.eval x = .slice (some ⟨w0.heap.size, 0, none⟩) m m) (hcs : cs.size = m * size) (h1 : ∀ u ∈ cs.toList, u.oneCell' = true)
    (h63 : n + m ≤ maxLen) (hbytes : (n + m) * bytes ≤ 140737488355328) (hB : B ≤ w0.heap.size)
    (h : ∀ v' w', Owns w' B size v' (n + m) (xs ++ cs.toList) → w0.grownBy w' v.ownBlock → Below B w0 w' → (v'.ownBlock = v.ownBlock ∨ ∀ k, v'.ownBlock = some k → w0.heap.size ≤ k) → wpList P ops Q rest (a.put o.dst v') w') : wpList P ops Q (o :: rest) a w := by
  subst hw
  have hb1 : Below w0.heap.size w0 (w0.alloc (.cells cs T)) := below1 _ _
  have hown1 := hown.below hb1
  refine wpList_append_any2 hgd s x t ho B e z size bytes ht hi hzs hsz v n xs hs hown1 (some ⟨w0.heap.size, 0, none⟩) m m cs.toList hx (by simpa using hcs) (fun h => by cases h) (fun ad had j u hu => ?_) h1 h63 hbytes (Nat.le_trans hB hb1.size) (fun v' w' k1 k2 k3 => h v' w' k1 ?_ ?_ (k3.imp id (fun h k hk => Nat.le_trans hb1.size (h k hk))))
  · obtain rfl : ad = ⟨w0.heap.size, 0, none⟩ := by simpa using had.symm
    have hadd : (⟨w0.heap.size, 0, none⟩ : Addr).add j = ⟨w0.heap.size, j, none⟩ := by unfold Addr.add; split <;> simp_all
    rw [hadd]
    exact (cell_of_row _ w0.heap.size j _ T (0, 0) (heap_alloc_at _ _ _ rfl)).trans (by simpa using hu)
  · exact grown_trans (World.grownBy_alloc w0 _ _) k2
  · exact (hb1.mono hB).grown k2 (Nat.le_trans hB hb1.size) (fun k hk => (hown.lt k hk).1)
end

theorem Mem.turnedK {S : Nat → Prop} {w w' w'' : World} {bs : List (Nat × Obj)} (h : Mem w w' bs) (ht : Turned S w' w'') (hS : ∀ k, S k → w.heap.size ≤ k ∧ ∀ (i : Nat) (o : Obj), bs[i]? ≠ some (k, o)) : Mem w w'' bs :=
  ⟨h.below.trans (ht.below (fun k hk => (hS k hk).1) h.below.size), fun i b o hi => (ht.block b (h.lt hi) (fun e => (hS b e).2 i o hi)).trans (h.has i b o hi), h.apart, h.own⟩
theorem Mem.grown {w w' w'' : World} {bs : List (Nat × Obj)} {row : Option Nat} (h : Mem w w' bs) (hg : w'.grownBy w'' row) (hS : ∀ k, row = some k → w.heap.size ≤ k ∧ ∀ (i : Nat) (o : Obj), bs[i]? ≠ some (k, o)) : Mem w w'' bs :=
  h.turnedK ((Turned.refl (S := fun k => row = some k)).grown hg (fun _ hk _ => hk)) hS
/-- One block told. -/
theorem Mem.grown1 {w w' w'' : World} {X : Nat} {o : Obj} {row : Option Nat} (h : Mem w w' [(X, o)]) (hg : w'.grownBy w'' row) (hS : ∀ k, row = some k → w.heap.size ≤ k ∧ k ≠ X) : Mem w w'' [(X, o)] :=
  h.grown hg fun k hk => ⟨(hS k hk).1, fun i o' hi => by
    match i, hi with
    | 0, hi => simp at hi; exact (hS k hk).2 hi.1.symm
    | i + 1, hi => simp at hi⟩
theorem Owns.setRowOther {w : World} {B sz n : Nat} {v : Value} {xs : List Value} (h : Owns w B sz v n xs) {b : Nat} (cs : Array Value) (hb : v.ownBlock ≠ some b) : Owns (w.setRow b cs) B sz v n xs :=
  h.same (by simp) (fun k hk => setRow_other w b k cs (by intro e; subst e; exact hb hk))
end Go.Proofs.Ytapgcbjlgekpeaa
