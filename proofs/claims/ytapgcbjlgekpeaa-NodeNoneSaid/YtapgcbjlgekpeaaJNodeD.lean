/- Layer 17: what a node has; a node in memory. -/
import Derived.Test.YtapgcbjlgekpeaaJRingB
import Derived.Test.YtapgcbjlgekpeaaJSer14
import Derived.Test.YtapgcbjlgekpeaaJKit
import Derived.Test.YtapgcbjlgekpeaaJRoute
import Derived.Test.YtapgcbjlgekpeaaJPol
namespace Go.Proofs.Ytapgcbjlgekpeaa
open Go.ChangeShapes Go.WideShapes Go.ChangeAt Go.RowKit

/-- What a node has. -/
structure NS where
  sa : List Samp
  pa : List Adv
  pol : Pol
  ruled : Bool
  ver : Nat
def NS.zero : NS := ⟨[], [], ⟨0, 0, 0, 0, 0, 0⟩, false, 0⟩
def NS.up (x : NS) : NS := { x with ver := x.ver + 1 }

/-- The blocks of a node. -/
structure NI where
  nb : Nat
  s : Nat
  v : Value
  h : Nat
  r : Nat
  u : Value
def NI.inS (i : NI) (k : Nat) : Prop := k = i.s ∨ i.v.ownBlock = some k
def NI.inH (i : NI) (k : Nat) : Prop := k = i.h ∨ k = i.r ∨ i.u.ownBlock = some k
def NI.foot (i : NI) (k : Nat) : Prop := k = i.nb ∨ i.inS k ∨ i.inH k
abbrev NI.ptr (i : NI) : Value := .pointer (some ⟨i.nb, 0, none⟩)

def NS.row (x : NS) (fz : Bool) (s h : Nat) : Array Value :=
  #[.int .i64 x.pol.mn, .int .i64 x.pol.mx, .int .i64 x.pol.tg, .int .i64 x.pol.tl, .int .i64 x.pol.wi, .int .i64 x.pol.ho, .bool x.ruled, .int .i64 x.ver, .bool fz, .pointer (some ⟨s, 0, none⟩), .pointer (some ⟨h, 0, none⟩)]

structure NodeAt (w : World) (B : Nat) (i : NI) (rs rh : Nat) (fz : Bool) (x : NS) : Prop where
  low : B ≤ i.nb
  row : w.heap[i.nb]? = some (.cells (x.row fz i.s i.h) 142 (0, 0))
  ser : SerAt w B i.s i.v rs x.sa
  his : HistA w B i.h i.r i.u rh x.pa
  apS : ∀ k, i.inS k → k ≠ i.nb
  apH : ∀ k, i.inH k → k ≠ i.nb
  apX : ∀ k, i.inS k → ¬ i.inH k
section
variable {w w' : World} {B rs rh : Nat} {i : NI} {fz : Bool} {x : NS}
theorem NodeAt.lt (h : NodeAt w B i rs rh fz x) : ∀ k, i.foot k → B ≤ k ∧ k < w.heap.size := by
  intro k hk
  rcases hk with rfl | hk | hk
  · exact ⟨h.low, lt_of_heap h.row⟩
  · rcases hk with rfl | hk
    · exact ⟨h.ser.low, h.ser.lt⟩
    · exact h.ser.owns.lt k hk
  · rcases hk with rfl | rfl | hk
    · exact ⟨h.his.low, lt_of_heap h.his.row⟩
    · exact ⟨h.his.ring.apart.2.1, h.his.ring.lt.1⟩
    · exact ⟨h.his.ring.apart.2.2 k hk, h.his.ring.lt.2 k hk⟩
theorem NodeAt.below (h : NodeAt w B i rs rh fz x) (hb : Below w.heap.size w w') : NodeAt w' B i rs rh fz x :=
  ⟨h.low, (hb.block _ (lt_of_heap h.row)).trans h.row, h.ser.below hb, h.his.below hb, h.apS, h.apH, h.apX⟩
theorem NodeAt.turned {S : Nat → Prop} (h : NodeAt w B i rs rh fz x) (ht : Turned S w w') (hS : ∀ k, i.foot k → ¬ S k) : NodeAt w' B i rs rh fz x :=
  ⟨h.low, (ht.block _ (lt_of_heap h.row) (hS _ (.inl rfl))).trans h.row, h.ser.turned ht (hS _ (.inr (.inl (.inl rfl)))) (fun k hk => hS _ (.inr (.inl (.inr hk)))),
    h.his.turned ht (hS _ (.inr (.inr (.inl rfl)))) (hS _ (.inr (.inr (.inr (.inl rfl))))) (fun k hk => hS _ (.inr (.inr (.inr (.inr hk))))), h.apS, h.apH, h.apX⟩
theorem stab_node : Stab (fun w' => NodeAt w' B i rs rh fz x) := fun _ _ h hb => h.below hb
theorem NodeAt.lift {B' : Nat} (h : NodeAt w B i rs rh fz x) (hB : B' ≤ B) : NodeAt w B' i rs rh fz x :=
  ⟨Nat.le_trans hB h.low, h.row, h.ser.lift hB, h.his.lift hB, h.apS, h.apH, h.apX⟩
theorem NodeAt.cell (h : NodeAt w B i rs rh fz x) (j : Nat) {c : Value} (hc : (x.row fz i.s i.h)[j]? = some c) : w.cell? ⟨i.nb, j, none⟩ = some c := by rw [cell_of_row _ _ _ _ _ _ h.row]; exact hc
theorem NodeAt.free (h : NodeAt w B i rs rh fz x) (j : Nat) : w.frozen? ⟨i.nb, j, none⟩ = false := frozen_of_row _ _ _ _ _ h.row
/-- The node's own block put anew. -/
theorem NodeAt.own {fz2 : Bool} {y : NS} (h : NodeAt w B i rs rh fz x) (ht : Turned (fun k => k = i.nb) w w') (hr : w'.heap[i.nb]? = some (.cells (y.row fz2 i.s i.h) 142 (0, 0))) (e1 : y.sa = x.sa) (e2 : y.pa = x.pa) : NodeAt w' B i rs rh fz2 y := by
  refine ⟨h.low, hr, ?_, ?_, h.apS, h.apH, h.apX⟩
  · rw [e1]; exact h.ser.turned ht (h.apS _ (.inl rfl)) (fun k hk => h.apS _ (.inr hk))
  · rw [e2]; exact h.his.turned ht (h.apH _ (.inl rfl)) (h.apH _ (.inr (.inl rfl))) (fun k hk => h.apH _ (.inr (.inr hk)))
end
/-- The blocks that may be turned: those of a node that is not frozen. -/
def NI.may (i : NI) (fz : Bool) (k : Nat) : Prop := fz = false ∧ i.foot k
/-- What an operation on a node leaves. -/
structure NodeOf (w : World) (B : Nat) (i : NI) (f : Bool) (rs rh : Nat) (fz : Bool) (x : NS) (j : NI) (w' : World) : Prop where
  node : NodeAt w' B j rs rh fz x
  turned : Turned (i.may f) w w'
  foot : (∀ k, j.foot k → i.may f k ∨ w.heap.size ≤ k) ∨ j = i
theorem NodeOf.self {w w' : World} {B rs rh : Nat} {i : NI} {x : NS} {f : Bool} (h : NodeAt w B i rs rh f x) (hb : Below w.heap.size w w') : NodeOf w B i f rs rh f x i w' := ⟨h.below hb, Turned.of_below hb, .inr rfl⟩
/-- One operation behind the next node. -/
theorem NodeOf.trans {w w' w'' : World} {B rs rh : Nat} {i j j2 : NI} {x y : NS} {f fz : Bool} (h : NodeOf w B i f rs rh false x j w') (hf : ∀ k, j.foot k → i.may f k ∨ w.heap.size ≤ k) (k : NodeOf w' B j false rs rh fz y j2 w'') : NodeOf w B i f rs rh fz y j2 w'' := by
  refine ⟨k.node, h.turned.trans k.turned (fun z hz hf2 => ?_), .inl fun z hz => ?_⟩
  · rcases hf z hf2.2 with g | g
    · exact g
    · omega
  · rcases k.foot with g | g
    · rcases g z hz with g | g
      · exact hf z g.2
      · exact .inr (Nat.le_trans h.turned.size g)
    · rw [g] at hz; exact hf z hz
theorem NodeOf.call {w w' w'' : World} {B rs rh : Nat} {i j : NI} {x : NS} {f fz : Bool} (h : NodeOf w B i f rs rh fz x j w') (hb : Below w'.heap.size w' w'') : NodeOf w B i f rs rh fz x j w'' := ⟨h.node.below hb, h.turned.call hb, h.foot⟩
theorem stab_nodeOf {w : World} {B rs rh : Nat} {i j : NI} {x : NS} {f fz : Bool} : Stab (fun w' => NodeOf w B i f rs rh fz x j w') := fun _ _ h hb => h.call hb
end Go.Proofs.Ytapgcbjlgekpeaa
