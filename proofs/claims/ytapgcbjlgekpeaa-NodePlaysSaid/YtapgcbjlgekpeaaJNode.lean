/- General lemmas of several texts, one after another. -/
import Derived.Test.YtapgcbjlgekpeaaJRingB
import Derived.Test.YtapgcbjlgekpeaaJSer14
import Derived.Test.YtapgcbjlgekpeaaJKit
import Derived.Test.YtapgcbjlgekpeaaJRoute
import Derived.Test.YtapgcbjlgekpeaaJPol
import Derived.Test.YtapgcbjlgekpeaaJLaws16
import Derived.Test.YtapgcbjlgekpeaaJBase
import Derived.Deep.MidRow
/- Layer 17: what a node has; a node in memory. -/
namespace Go.Proofs.Ytapgcbjlgekpeaa
open Go.ChangeShapes Go.WideShapes Go.ChangeAt Go.RowKit

/-- What a node has. -/
structure NS where
  sa : List Samp
  pa : List Adv
  pol : Pol
  ruled : Bool
  ver : Nat
def NS.zero : NS := ⟨[], [], ⟨0, 0, 0, 0, 0, 0⟩, false, 0⟩
def NS.up (x : NS) : NS := { x with ver := x.ver + 1 }

/-- The blocks of a node. -/
structure NI where
  nb : Nat
  s : Nat
  v : Value
  h : Nat
  r : Nat
  u : Value
def NI.inS (i : NI) (k : Nat) : Prop := k = i.s ∨ i.v.ownBlock = some k
def NI.inH (i : NI) (k : Nat) : Prop := k = i.h ∨ k = i.r ∨ i.u.ownBlock = some k
def NI.foot (i : NI) (k : Nat) : Prop := k = i.nb ∨ i.inS k ∨ i.inH k
abbrev NI.ptr (i : NI) : Value := .pointer (some ⟨i.nb, 0, none⟩)

def NS.row (x : NS) (fz : Bool) (s h : Nat) : Array Value :=
  #[.int .i64 x.pol.mn, .int .i64 x.pol.mx, .int .i64 x.pol.tg, .int .i64 x.pol.tl, .int .i64 x.pol.wi, .int .i64 x.pol.ho, .bool x.ruled, .int .i64 x.ver, .bool fz, .pointer (some ⟨s, 0, none⟩), .pointer (some ⟨h, 0, none⟩)]

structure NodeAt (w : World) (B : Nat) (i : NI) (rs rh : Nat) (fz : Bool) (x : NS) : Prop where
  low : B ≤ i.nb
  row : w.heap[i.nb]? = some (.cells (x.row fz i.s i.h) 142 (0, 0))
  ser : SerAt w B i.s i.v rs x.sa
  his : HistA w B i.h i.r i.u rh x.pa
  apS : ∀ k, i.inS k → k ≠ i.nb
  apH : ∀ k, i.inH k → k ≠ i.nb
  apX : ∀ k, i.inS k → ¬ i.inH k
section
variable {w w' : World} {B rs rh : Nat} {i : NI} {fz : Bool} {x : NS}
theorem NodeAt.lt (h : NodeAt w B i rs rh fz x) : ∀ k, i.foot k → B ≤ k ∧ k < w.heap.size := by
  intro k hk
  rcases hk with rfl | hk | hk
  · exact ⟨h.low, lt_of_heap h.row⟩
  · rcases hk with rfl | hk
    · exact ⟨h.ser.low, h.ser.lt⟩
    · exact h.ser.owns.lt k hk
  · rcases hk with rfl | rfl | hk
    · exact ⟨h.his.low, lt_of_heap h.his.row⟩
    · exact ⟨h.his.ring.apart.2.1, h.his.ring.lt.1⟩
    · exact ⟨h.his.ring.apart.2.2 k hk, h.his.ring.lt.2 k hk⟩
theorem NodeAt.below (h : NodeAt w B i rs rh fz x) (hb : Below w.heap.size w w') : NodeAt w' B i rs rh fz x :=
  ⟨h.low, (hb.block _ (lt_of_heap h.row)).trans h.row, h.ser.below hb, h.his.below hb, h.apS, h.apH, h.apX⟩
theorem NodeAt.turned {S : Nat → Prop} (h : NodeAt w B i rs rh fz x) (ht : Turned S w w') (hS : ∀ k, i.foot k → ¬ S k) : NodeAt w' B i rs rh fz x :=
  ⟨h.low, (ht.block _ (lt_of_heap h.row) (hS _ (.inl rfl))).trans h.row, h.ser.turned ht (hS _ (.inr (.inl (.inl rfl)))) (fun _ hk => hS _ (.inr (.inl (.inr hk)))),
    h.his.turned ht (hS _ (.inr (.inr (.inl rfl)))) (hS _ (.inr (.inr (.inr (.inl rfl))))) (fun _ hk => hS _ (.inr (.inr (.inr (.inr hk))))), h.apS, h.apH, h.apX⟩
theorem stab_node : Stab (fun w' => NodeAt w' B i rs rh fz x) := fun _ _ h hb => h.below hb
theorem NodeAt.lift {B' : Nat} (h : NodeAt w B i rs rh fz x) (hB : B' ≤ B) : NodeAt w B' i rs rh fz x :=
  ⟨Nat.le_trans hB h.low, h.row, h.ser.lift hB, h.his.lift hB, h.apS, h.apH, h.apX⟩
theorem NodeAt.cell (h : NodeAt w B i rs rh fz x) (j : Nat) {c : Value} (hc : (x.row fz i.s i.h)[j]? = some c) : w.cell? ⟨i.nb, j, none⟩ = some c := by rw [cell_of_row _ _ _ _ _ _ h.row]; exact hc
theorem NodeAt.free (h : NodeAt w B i rs rh fz x) (j : Nat) : w.frozen? ⟨i.nb, j, none⟩ = false := frozen_of_row _ _ _ _ _ h.row
/-- The node's own block put anew. -/
theorem NodeAt.own {fz2 : Bool} {y : NS} (h : NodeAt w B i rs rh fz x) (ht : Turned (fun k => k = i.nb) w w') (hr : w'.heap[i.nb]? = some (.cells (y.row fz2 i.s i.h) 142 (0, 0))) (e1 : y.sa = x.sa) (e2 : y.pa = x.pa) : NodeAt w' B i rs rh fz2 y := by
  refine ⟨h.low, hr, ?_, ?_, h.apS, h.apH, h.apX⟩
  · rw [e1]; exact h.ser.turned ht (h.apS _ (.inl rfl)) (fun k hk => h.apS _ (.inr hk))
  · rw [e2]; exact h.his.turned ht (h.apH _ (.inl rfl)) (h.apH _ (.inr (.inl rfl))) (fun k hk => h.apH _ (.inr (.inr hk)))
end
/-- The blocks that may be turned: those of a node that is not frozen. -/
def NI.may (i : NI) (fz : Bool) (k : Nat) : Prop := fz = false ∧ i.foot k
/-- What an operation on a node leaves. -/
structure NodeOf (w : World) (B : Nat) (i : NI) (f : Bool) (rs rh : Nat) (fz : Bool) (x : NS) (j : NI) (w' : World) : Prop where
  node : NodeAt w' B j rs rh fz x
  turned : Turned (i.may f) w w'
  foot : (∀ k, j.foot k → i.may f k ∨ w.heap.size ≤ k) ∨ j = i
theorem NodeOf.self {w w' : World} {B rs rh : Nat} {i : NI} {x : NS} {f : Bool} (h : NodeAt w B i rs rh f x) (hb : Below w.heap.size w w') : NodeOf w B i f rs rh f x i w' := ⟨h.below hb, Turned.of_below hb, .inr rfl⟩
/-- One operation behind the next node. -/
theorem NodeOf.trans {w w' w'' : World} {B rs rh : Nat} {i j j2 : NI} {x y : NS} {f fz : Bool} (h : NodeOf w B i f rs rh false x j w') (hf : ∀ k, j.foot k → i.may f k ∨ w.heap.size ≤ k) (k : NodeOf w' B j false rs rh fz y j2 w'') : NodeOf w B i f rs rh fz y j2 w'' := by
  refine ⟨k.node, h.turned.trans k.turned (fun z hz hf2 => ?_), .inl fun z hz => ?_⟩
  · rcases hf z hf2.2 with g | g
    · exact g
    · omega
  · rcases k.foot with g | g
    · rcases g z hz with g | g
      · exact hf z g.2
      · exact .inr (Nat.le_trans h.turned.size g)
    · rw [g] at hz; exact hf z hz
theorem NodeOf.call {w w' w'' : World} {B rs rh : Nat} {i j : NI} {x : NS} {f fz : Bool} (h : NodeOf w B i f rs rh fz x j w') (hb : Below w'.heap.size w' w'') : NodeOf w B i f rs rh fz x j w'' := ⟨h.node.below hb, h.turned.call hb, h.foot⟩
theorem stab_nodeOf {w : World} {B rs rh : Nat} {i j : NI} {x : NS} {f fz : Bool} : Stab (fun w' => NodeOf w B i f rs rh fz x j w') := fun _ _ h hb => h.call hb
end Go.Proofs.Ytapgcbjlgekpeaa

/- Layer 17: what a node tells; it is frozen. -/
namespace Go.Proofs.Ytapgcbjlgekpeaa
open Go.ChangeShapes Go.WideShapes Go.ChangeAt Go.RowKit

theorem turned_setRowN (w : World) (g : Nat) (cs : Array Value) : Turned (fun k => k = g) w (w.setRow g cs) := ⟨rfl, rfl, rfl, by simp, fun k _ hk => setRow_other w g k cs hk⟩
theorem stab_row6 {n : Nat} : Stab (fun w' : World => ∃ cs : Array Value, cs.size = 6 ∧ w'.heap[n]? = some (.cells cs 25 (0, 0))) := fun _ _ ⟨cs, h1, h2⟩ hb => ⟨cs, h1, (hb.block _ (lt_of_heap h2)).trans h2⟩
section
variable {w : World} {B rs rh : Nat} {i : NI} {fz : Bool} {x : NS}
theorem node_made (h : NodeAt w B i rs rh fz x) : Calls Try.prog 91 #[i.ptr] w fun e w' => e = .returned (.bool true) ∧ w = w' := by
  have c9 := h.cell 9 (c := .pointer (some ⟨i.s, 0, none⟩)) rfl
  show Calls Try.prog 91 #[.pointer (some ⟨i.nb, 0, none⟩)] w _
  clear h
  go_enter Try.func91, Try.ntmps91
  go_wp2
  go_ret
  exact ⟨rfl, rfl⟩
theorem node_made_nil (w : World) : Calls Try.prog 91 #[.pointer none] w fun e w' => e = .returned (.bool false) ∧ w = w' := by
  go_enter Try.func91, Try.ntmps91
  go_wp2
  go_ret
  exact ⟨rfl, rfl⟩
theorem node_frozen (h : NodeAt w B i rs rh fz x) : Calls Try.prog 21 #[i.ptr] w fun e w' => e = .returned (.bool fz) ∧ w = w' := by
  have c8 := h.cell 8 (c := .bool fz) rfl
  show Calls Try.prog 21 #[.pointer (some ⟨i.nb, 0, none⟩)] w _
  clear h
  go_enter Try.func21, Try.ntmps21
  go_wp2
  go_ret
  exact ⟨rfl, rfl⟩
theorem node_frozen_nil (w : World) : Calls Try.prog 21 #[.pointer none] w fun e w' => e = .returned (.bool false) ∧ w = w' := by
  go_enter Try.func21, Try.ntmps21
  go_wp2
  go_ret
  exact ⟨rfl, rfl⟩
theorem node_version (h : NodeAt w B i rs rh fz x) : Calls Try.prog 75 #[i.ptr] w fun e w' => e = .returned (.int .i64 x.ver) ∧ w = w' := by
  have c7 := h.cell 7 (c := .int .i64 x.ver) rfl
  show Calls Try.prog 75 #[.pointer (some ⟨i.nb, 0, none⟩)] w _
  clear h
  go_enter Try.func75, Try.ntmps75
  go_wp2
  go_ret
  exact ⟨rfl, rfl⟩
theorem node_version_nil (w : World) : Calls Try.prog 75 #[.pointer none] w fun e w' => e = .returned (.int .i64 0) ∧ w = w' := by
  go_enter Try.func75, Try.ntmps75
  go_wp2
  go_ret
  exact ⟨rfl, rfl⟩
theorem node_samples (h : NodeAt w B i rs rh fz x) : Calls Try.prog 76 #[i.ptr] w fun e w' => ∃ p c, e = .returned (.slice p x.sa.length c) ∧ x.sa.length ≤ c ∧ Samps w' p x.sa ∧ Below w.heap.size w w' := by
  have c9 := h.cell 9 (c := .pointer (some ⟨i.s, 0, none⟩)) rfl
  have P := Lib.hid (ser_list h.ser)
  show Calls Try.prog 76 #[.pointer (some ⟨i.nb, 0, none⟩)] w _
  obtain ⟨n, en⟩ : ∃ n, n = x.sa.length := ⟨_, rfl⟩
  rw [← en] at P ⊢
  clear h en
  go_enter Try.func76, Try.ntmps76
  go_wp2_with fail
  (with_reducible refine P.out.mono ?_)
  rintro e w1 ⟨p, c, rfl, h1, h2, h3⟩
  have H := Lib.hid (And.intro h1 (And.intro h2 h3))
  clear h1 h2 h3
  go_wp2
  go_ret
  exact ⟨p, c, rfl, H.out⟩
theorem node_samples_nil (w : World) : Calls Try.prog 76 #[.pointer none] w fun e w' => e = .returned (.slice none 0 0) ∧ w = w' := by
  go_enter Try.func76, Try.ntmps76
  go_wp2
  go_ret
  exact ⟨rfl, rfl⟩
theorem node_past (h : NodeAt w B i rs rh fz x) : Calls Try.prog 89 #[i.ptr] w fun e w' => ∃ p c, e = .returned (.slice p x.pa.length c) ∧ x.pa.length ≤ c ∧ Advs w' p x.pa ∧ Below w.heap.size w w' := by
  have c10 := h.cell 10 (c := .pointer (some ⟨i.h, 0, none⟩)) rfl
  have P := Lib.hid (hist_list h.his)
  show Calls Try.prog 89 #[.pointer (some ⟨i.nb, 0, none⟩)] w _
  obtain ⟨n, en⟩ : ∃ n, n = x.pa.length := ⟨_, rfl⟩
  rw [← en] at P ⊢
  clear h en
  go_enter Try.func89, Try.ntmps89
  go_wp2_with fail
  (with_reducible refine P.out.mono ?_)
  rintro e w1 ⟨p, c, rfl, h1, h2, h3⟩
  have H := Lib.hid (And.intro h1 (And.intro h2 h3))
  clear h1 h2 h3
  go_wp2
  go_ret
  exact ⟨p, c, rfl, H.out⟩
theorem node_past_nil (w : World) : Calls Try.prog 89 #[.pointer none] w fun e w' => e = .returned (.slice none 0 0) ∧ w = w' := by
  go_enter Try.func89, Try.ntmps89
  go_wp2
  go_ret
  exact ⟨rfl, rfl⟩

set_option maxRecDepth 100000 in
theorem node_policy (h : NodeAt w B i rs rh fz x) : Calls Try.prog 87 #[i.ptr] w fun e w' => e = .returned (.tuple #[.agg #[.int .i64 x.pol.mn, .int .i64 x.pol.mx, .int .i64 x.pol.tg, .int .i64 x.pol.tl, .int .i64 x.pol.wi, .int .i64 x.pol.ho], .bool x.ruled]) ∧ Below w.heap.size w w' := by
  have hst := stab_and (stab_and (stab_node (B := B) (i := i) (rs := rs) (rh := rh) (fz := fz) (x := x)) (stab_below (B := w.heap.size) (w0 := w) (Nat.le_refl _))) (stab_row6 (n := w.heap.size))
  have H := Lib.hid (h.below (below1 w (.cells #[.int .i64 0, .int .i64 0, .int .i64 0, .int .i64 0, .int .i64 0, .int .i64 0] 25)))
  have HLT := Lib.hid h.lt
  show Calls Try.prog 87 #[.pointer (some ⟨i.nb, 0, none⟩)] w _
  clear h
  go_enter Try.func87, Try.ntmps87
  go_wp2_with fail
  refine wp_region_E mixed [] hst ⟨⟨H.out.below (below_drew (Below.refl _ _)), below_drew (below1 _ _)⟩, ⟨_, rfl, heap_alloc_at _ _ _ rfl⟩⟩ ?_
  refine wpAnyE_take 0 rfl (by kernel_rfl) (by kernel_rfl) (by kernel_rfl) (fun _ _ _ h => h) hst (EffB.pure rfl (fun _ => rfl)) (.inr (EffB.pure rfl (fun _ => rfl))) ?_
  simp only [act_norm]
  refine wpAnyE_take 1 (v := .pointer (some ⟨i.nb, 0, none⟩)) rfl (by kernel_rfl) (by kernel_rfl) (by kernel_rfl) (fun _ _ _ h => h) hst (EffB.run rfl rfl (fun wd hS => ?_)) (.inr (EffB.run rfl rfl (fun wd hS => ?_))) ?_
  · (go_wp2; exact ⟨rfl, Below.refl _ _⟩)
  · (go_wp2; exact ⟨rfl, Below.refl _ _⟩)
  simp only [act_norm]
  refine wpAnyE_take 2 (v := .pointer (some ⟨i.nb, 0, none⟩)) rfl (by kernel_rfl) (by kernel_rfl) (by kernel_rfl) (fun _ _ _ h => h) hst (EffB.run rfl rfl (fun wd hS => ?_)) (.inr (EffB.run rfl rfl (fun wd hS => ?_))) ?_
  · (go_wp2; exact ⟨rfl, Below.refl _ _⟩)
  · (go_wp2; exact ⟨rfl, Below.refl _ _⟩)
  simp only [act_norm]
  refine wpAnyE_take 3 (v := .pointer (some ⟨i.nb, 0, none⟩)) rfl (by kernel_rfl) (by kernel_rfl) (by kernel_rfl) (fun _ _ _ h => h) hst (EffB.run rfl rfl (fun wd hS => ?_)) (.inr (EffB.run rfl rfl (fun wd hS => ?_))) ?_
  · (go_wp2; exact ⟨rfl, Below.refl _ _⟩)
  · (go_wp2; exact ⟨rfl, Below.refl _ _⟩)
  simp only [act_norm]
  refine wpAnyE_take 4 (v := .agg #[.int .i64 x.pol.mn, .int .i64 x.pol.mx, .int .i64 x.pol.tg, .int .i64 x.pol.tl, .int .i64 x.pol.wi, .int .i64 x.pol.ho]) rfl (by kernel_rfl) (by kernel_rfl) (by kernel_rfl) (fun _ _ _ h => h) hst (EffB.run rfl rfl (fun wd hS => ?_)) (.inl (by kernel_rfl)) ?_
  · (have c0 := hS.1.1.cell 0 rfl; have c1 := hS.1.1.cell 1 rfl; have c2 := hS.1.1.cell 2 rfl; have c3 := hS.1.1.cell 3 rfl; have c4 := hS.1.1.cell 4 rfl; have c5 := hS.1.1.cell 5 rfl; go_wp2; exact ⟨rfl, Below.refl _ _⟩)
  simp only [act_norm]
  refine wpAnyE_take 5 rfl (by kernel_rfl) (by kernel_rfl) (by kernel_rfl) (fun _ _ _ h => h) hst (EffB.pure rfl (fun _ => rfl)) (.inr (EffB.pure rfl (fun _ => rfl))) ?_
  simp only [act_norm]
  refine wpAnyE_take 6 (v := .pointer (some ⟨i.nb, 0, none⟩)) rfl (by kernel_rfl) (by kernel_rfl) (by kernel_rfl) (fun _ _ _ h => h) hst (EffB.run rfl rfl (fun wd hS => ?_)) (.inr (EffB.run rfl rfl (fun wd hS => ?_))) ?_
  · (go_wp2; exact ⟨rfl, Below.refl _ _⟩)
  · (go_wp2; exact ⟨rfl, Below.refl _ _⟩)
  simp only [act_norm]
  refine wpAnyE_take 7 (v := .pointer (some ⟨i.nb, 0, none⟩)) rfl (by kernel_rfl) (by kernel_rfl) (by kernel_rfl) (fun _ _ _ h => h) hst (EffB.run rfl rfl (fun wd hS => ?_)) (.inr (EffB.run rfl rfl (fun wd hS => ?_))) ?_
  · (go_wp2; exact ⟨rfl, Below.refl _ _⟩)
  · (go_wp2; exact ⟨rfl, Below.refl _ _⟩)
  simp only [act_norm]
  refine wpAnyE_take 8 (v := .pointer (some ⟨i.nb, 6, none⟩)) rfl (by kernel_rfl) (by kernel_rfl) (by kernel_rfl) (fun _ _ _ h => h) hst (EffB.run rfl rfl (fun wd hS => ?_)) (.inr (EffB.run rfl rfl (fun wd hS => ?_))) ?_
  · (go_wp2; exact ⟨rfl, Below.refl _ _⟩)
  · (go_wp2; exact ⟨rfl, Below.refl _ _⟩)
  simp only [act_norm]
  refine wpAnyE_take 9 (v := .bool x.ruled) rfl (by kernel_rfl) (by kernel_rfl) (by kernel_rfl) (fun _ _ _ h => h) hst (EffB.run rfl rfl (fun wd hS => ?_)) (.inl (by kernel_rfl)) ?_
  · (have c6 := hS.1.1.cell 6 (c := .bool x.ruled) rfl; go_wp2; exact ⟨rfl, Below.refl _ _⟩)
  simp only [act_norm]
  refine wpAnyE_one 10 rfl (by kernel_rfl) rfl (fun wd hS => ?_)
  obtain ⟨old, hold, hrow⟩ := hS.2
  refine wp_store_row 25 _ _ rfl w.heap.size #[.int .i64 x.pol.mn, .int .i64 x.pol.mx, .int .i64 x.pol.tg, .int .i64 x.pol.tl, .int .i64 x.pol.wi, .int .i64 x.pol.ho] rfl rfl 25 old hrow polInfo hold (by simp [Value.oneCell']) ?_
  have Y := Lib.hid (And.intro (And.intro (hS.1.1.turned (turned_setRowN wd w.heap.size #[.int .i64 x.pol.mn, .int .i64 x.pol.mx, .int .i64 x.pol.tg, .int .i64 x.pol.tl, .int .i64 x.pol.wi, .int .i64 x.pol.ho]) (fun k hk e => by have := (HLT.out k hk).2; omega)) (below_setRow hS.1.2 (Nat.le_refl _) #[.int .i64 x.pol.mn, .int .i64 x.pol.mx, .int .i64 x.pol.tg, .int .i64 x.pol.tl, .int .i64 x.pol.wi, .int .i64 x.pol.ho])) (setRow_heap _ _ _ #[.int .i64 x.pol.mn, .int .i64 x.pol.mx, .int .i64 x.pol.tg, .int .i64 x.pol.tl, .int .i64 x.pol.wi, .int .i64 x.pol.ho] _ _ hrow))
  clear hS hrow hold
  refine ⟨fun w' => (NodeAt w' B i rs rh fz x ∧ Below w.heap.size w w') ∧ w'.heap[w.heap.size]? = some (.cells #[.int .i64 x.pol.mn, .int .i64 x.pol.mx, .int .i64 x.pol.tg, .int .i64 x.pol.tl, .int .i64 x.pol.wi, .int .i64 x.pol.ho] 25 (0, 0)), Y.out, stab_and (stab_and stab_node (stab_below (Nat.le_refl _))) (stab_heap _ _), (by first | exact fun _ h => ⟨h.1, _, rfl, h.2⟩ | exact .inr fun _ h => ⟨h.1, _, rfl, h.2⟩), ?_⟩
  clear Y hst
  try simp only [act_norm]
  have hst := stab_and (stab_and (stab_node (B := B) (i := i) (rs := rs) (rh := rh) (fz := fz) (x := x)) (stab_below (B := w.heap.size) (w0 := w) (Nat.le_refl _))) (stab_heap w.heap.size (.cells #[.int .i64 x.pol.mn, .int .i64 x.pol.mx, .int .i64 x.pol.tg, .int .i64 x.pol.tl, .int .i64 x.pol.wi, .int .i64 x.pol.ho] 25 (0, 0)))
  refine wpAnyE_take 11 rfl (by kernel_rfl) (by kernel_rfl) (by kernel_rfl) (fun _ _ _ h => h) hst (EffB.pure rfl (fun _ => rfl)) (.inr (EffB.pure rfl (fun _ => rfl))) ?_
  simp only [act_norm]
  refine wpAnyE_done (by kernel_rfl) (fun wd hS => ?_) _
  have HF := Lib.hid hS
  clear hS
  go_wp2
  exact bodyPost_ret (results_row_tmp rfl _ _ w.heap.size 25 #[.int .i64 x.pol.mn, .int .i64 x.pol.mx, .int .i64 x.pol.tg, .int .i64 x.pol.tl, .int .i64 x.pol.wi, .int .i64 x.pol.ho] (0, 0) _ 6 _ rfl rfl HF.out.2 Try.underlying25 rfl polInfo rfl) rfl ⟨rfl, HF.out.1.2⟩

theorem node_freeze (h : NodeAt w B i rs rh fz x) : Calls Try.prog 24 #[i.ptr] w fun e w' => e = .returned i.ptr ∧ NodeOf w B i fz rs rh true x i w' := by
  have P := Lib.hid (node_made h)
  have c8 := h.cell 8 (c := .bool fz) rfl
  have f8 := h.free 8
  have H := Lib.hid h
  show Calls Try.prog 24 #[.pointer (some ⟨i.nb, 0, none⟩)] w _
  clear h
  cases fz with
  | true =>
    go_enter Try.func24, Try.ntmps24
    go_wp2_with ((with_reducible refine P.out.mono ?_); rintro e w1 ⟨rfl, rfl⟩)
    go_ret
    exact ⟨rfl, NodeOf.self H.out (Below.refl _ _)⟩
  | false =>
    go_enter Try.func24, Try.ntmps24
    go_wp2_with ((with_reducible refine P.out.mono ?_); rintro e w1 ⟨rfl, rfl⟩)
    go_ret
    have ht : Turned (fun k => k = i.nb) w (w.setCell ⟨i.nb, 8, none⟩ (.bool true)) := (Turned.refl (S := fun k => k = i.nb)).setCell _ (fun _ => rfl)
    exact ⟨rfl, H.out.own ht (by rw [heap_setCell_same _ _ _ _ _ _ H.out.row]; rfl) rfl rfl, ht.mono (fun k _ e => ⟨rfl, .inl e⟩), .inr rfl⟩
end
end Go.Proofs.Ytapgcbjlgekpeaa

/- Layer 17: the node to which something may be done. -/
namespace Go.Proofs.Ytapgcbjlgekpeaa
open Go.ChangeShapes Go.WideShapes Go.ChangeAt Go.RowKit

theorem NS.row_up (x : NS) (fz : Bool) (s h : Nat) : (x.row fz s h).setIfInBounds 7 (.int .i64 ((x.ver : Int) + 1)) = x.up.row fz s h := by
  unfold NS.row NS.up
  simp
section
variable {w : World} {B rs rh : Nat} {i : NI} {x : NS}
theorem node_next_open (h : NodeAt w B i rs rh false x) (hv : x.ver ≤ 100000) : Calls Try.prog 134 #[i.ptr] w fun e w' => ∃ j : NI, e = .returned j.ptr ∧ NodeOf w B i false rs rh false x.up j w' ∧ ∀ k, j.foot k → i.may false k ∨ w.heap.size ≤ k := by
  have c8 := h.cell 8 (c := .bool false) rfl
  have c7 := h.cell 7 (c := .int .i64 x.ver) rfl
  have f7 := h.free 7
  have H := Lib.hid h
  have HR := Lib.hid (NS.row_up x false i.s i.h)
  show Calls Try.prog 134 #[.pointer (some ⟨i.nb, 0, none⟩)] w _
  obtain ⟨n, en⟩ : ∃ n, n = x.ver := ⟨_, rfl⟩
  rw [← en] at c7 hv HR
  clear h en
  go_enter Try.func134, Try.ntmps134
  go_wp2
  go_ret
  have ht : Turned (fun k => k = i.nb) w (w.setCell ⟨i.nb, 7, none⟩ (.int .i64 ((n : Int) + 1))) := (Turned.refl (S := fun k => k = i.nb)).setCell _ (fun _ => rfl)
  exact ⟨i, rfl, ⟨H.out.own ht (by rw [heap_setCell_same _ _ _ _ _ _ H.out.row, HR.out]) rfl rfl, ht.mono (fun k _ e => ⟨rfl, .inl e⟩), .inr rfl⟩, fun k hk => .inl ⟨rfl, hk⟩⟩

set_option maxHeartbeats 1000000 in
set_option maxRecDepth 100000 in
theorem node_next_frozen (h : NodeAt w B i rs rh true x) (hv : x.ver ≤ 100000) (hB : B ≤ w.heap.size) : Calls Try.prog 134 #[i.ptr] w fun e w' => ∃ j : NI, e = .returned j.ptr ∧ NodeOf w B i true rs rh false x.up j w' ∧ ∀ k, j.foot k → i.may true k ∨ w.heap.size ≤ k := by
  have c8 := h.cell 8 (c := .bool true) rfl
  have H := Lib.hid h
  have hst := stab_and (stab_node (B := B) (i := i) (rs := rs) (rh := rh) (fz := true) (x := x)) (stab_below (B := w.heap.size) (w0 := w) (Nat.le_refl _))
  show Calls Try.prog 134 #[.pointer (some ⟨i.nb, 0, none⟩)] w _
  clear h
  go_enter Try.func134, Try.ntmps134
  go_wp2_with fail
  refine wp_region_E mixed [] hst ⟨H.out.below (below_drew (Below.refl _ _)), below_drew (Below.refl _ _)⟩ ?_
  refine wpAnyE_take 0 rfl (by kernel_rfl) (by kernel_rfl) (by kernel_rfl) (fun _ _ _ h => h) hst (EffB.pure rfl (fun _ => rfl)) (.inr (EffB.pure rfl (fun _ => rfl))) ?_
  simp only [act_norm]
  refine wpAnyE_take 1 (v := .pointer (some ⟨i.nb, 0, none⟩)) rfl (by kernel_rfl) (by kernel_rfl) (by kernel_rfl) (fun _ _ _ h => h) hst (EffB.run rfl rfl (fun wd hS => ?_)) (.inr (EffB.run rfl rfl (fun wd hS => ?_))) ?_
  · (go_wp2; exact ⟨rfl, Below.refl _ _⟩)
  · (go_wp2; exact ⟨rfl, Below.refl _ _⟩)
  simp only [act_norm]
  refine wpAnyE_take 2 (v := .pointer (some ⟨i.nb, 0, none⟩)) rfl (by kernel_rfl) (by kernel_rfl) (by kernel_rfl) (fun _ _ _ h => h) hst (EffB.run rfl rfl (fun wd hS => ?_)) (.inr (EffB.run rfl rfl (fun wd hS => ?_))) ?_
  · (go_wp2; exact ⟨rfl, Below.refl _ _⟩)
  · (go_wp2; exact ⟨rfl, Below.refl _ _⟩)
  simp only [act_norm]
  refine wpAnyE_take 3 (v := .agg #[.int .i64 x.pol.mn, .int .i64 x.pol.mx, .int .i64 x.pol.tg, .int .i64 x.pol.tl, .int .i64 x.pol.wi, .int .i64 x.pol.ho, .bool x.ruled, .int .i64 x.ver]) rfl (by kernel_rfl) (by kernel_rfl) (by kernel_rfl) (fun _ _ _ h => h) hst (EffB.run rfl rfl (fun wd hS => ?_)) (.inl (by kernel_rfl)) ?_
  · (have c0 := hS.1.cell 0 rfl; have c1 := hS.1.cell 1 rfl; have c2 := hS.1.cell 2 rfl; have c3 := hS.1.cell 3 rfl; have c4 := hS.1.cell 4 rfl; have c5 := hS.1.cell 5 rfl; have c6 := hS.1.cell 6 (c := .bool x.ruled) rfl; have c7 := hS.1.cell 7 (c := .int .i64 x.ver) rfl; go_wp2; exact ⟨rfl, Below.refl _ _⟩)
  simp only [act_norm]
  refine wpAnyE_take 4 rfl (by kernel_rfl) (by kernel_rfl) (by kernel_rfl) (fun _ _ _ h => h) hst (EffB.pure rfl (fun _ => rfl)) (.inr (EffB.pure rfl (fun _ => rfl))) ?_
  simp only [act_norm]
  refine wpAnyE_take 5 (v := .pointer (some ⟨i.nb, 0, none⟩)) rfl (by kernel_rfl) (by kernel_rfl) (by kernel_rfl) (fun _ _ _ h => h) hst (EffB.run rfl rfl (fun wd hS => ?_)) (.inr (EffB.run rfl rfl (fun wd hS => ?_))) ?_
  · (go_wp2; exact ⟨rfl, Below.refl _ _⟩)
  · (go_wp2; exact ⟨rfl, Below.refl _ _⟩)
  simp only [act_norm]
  refine wpAnyE_take 6 (v := .pointer (some ⟨i.nb, 9, none⟩)) rfl (by kernel_rfl) (by kernel_rfl) (by kernel_rfl) (fun _ _ _ h => h) hst (EffB.run rfl rfl (fun wd hS => ?_)) (.inr (EffB.run rfl rfl (fun wd hS => ?_))) ?_
  · (go_wp2; exact ⟨rfl, Below.refl _ _⟩)
  · (go_wp2; exact ⟨rfl, Below.refl _ _⟩)
  simp only [act_norm]
  refine wpAnyE_take 7 (v := .pointer (some ⟨i.s, 0, none⟩)) rfl (by kernel_rfl) (by kernel_rfl) (by kernel_rfl) (fun _ _ _ h => h) hst (EffB.run rfl rfl (fun wd hS => ?_)) (.inl (by kernel_rfl)) ?_
  · (have c9 := hS.1.cell 9 (c := .pointer (some ⟨i.s, 0, none⟩)) rfl; go_wp2; exact ⟨rfl, Below.refl _ _⟩)
  simp only [act_norm]
  refine wpAnyE_take 9 rfl (by kernel_rfl) (by kernel_rfl) (by kernel_rfl) (fun _ _ _ h => h) hst (EffB.pure rfl (fun _ => rfl)) (.inr (EffB.pure rfl (fun _ => rfl))) ?_
  simp only [act_norm]
  refine wpAnyE_take 10 (v := .pointer (some ⟨i.nb, 0, none⟩)) rfl (by kernel_rfl) (by kernel_rfl) (by kernel_rfl) (fun _ _ _ h => h) hst (EffB.run rfl rfl (fun wd hS => ?_)) (.inr (EffB.run rfl rfl (fun wd hS => ?_))) ?_
  · (go_wp2; exact ⟨rfl, Below.refl _ _⟩)
  · (go_wp2; exact ⟨rfl, Below.refl _ _⟩)
  simp only [act_norm]
  refine wpAnyE_take 11 (v := .pointer (some ⟨i.nb, 10, none⟩)) rfl (by kernel_rfl) (by kernel_rfl) (by kernel_rfl) (fun _ _ _ h => h) hst (EffB.run rfl rfl (fun wd hS => ?_)) (.inr (EffB.run rfl rfl (fun wd hS => ?_))) ?_
  · (go_wp2; exact ⟨rfl, Below.refl _ _⟩)
  · (go_wp2; exact ⟨rfl, Below.refl _ _⟩)
  simp only [act_norm]
  refine wpAnyE_take 12 (v := .pointer (some ⟨i.h, 0, none⟩)) rfl (by kernel_rfl) (by kernel_rfl) (by kernel_rfl) (fun _ _ _ h => h) hst (EffB.run rfl rfl (fun wd hS => ?_)) (.inl (by kernel_rfl)) ?_
  · (have c10 := hS.1.cell 10 (c := .pointer (some ⟨i.h, 0, none⟩)) rfl; go_wp2; exact ⟨rfl, Below.refl _ _⟩)
  simp only [act_norm]
  refine wpAnyE_one 8 rfl (by kernel_rfl) rfl (fun wd hS => ?_)
  go_wp2_with fail
  (with_reducible refine (ser_clone hS.1.ser).mono ?_)
  rintro e w2 ⟨s2, v2, rfl, hs2, hb2⟩
  have hs3 := hs2.lift hS.2.size
  have hst2 := stab_and hst (stab_ser (B := w.heap.size) (s := s2) (v := v2) (room := rs) (L := x.sa))
  refine ⟨_, ⟨hst _ _ hS hb2, hs3⟩, hst2, (by first | exact fun _ h => h.1 | exact .inr fun _ h => h.1), ?_⟩
  clear hS hs2 hs3 hb2 hst
  try simp only [act_norm]
  have hst := hst2
  clear hst2
  refine wpAnyE_one 13 rfl (by kernel_rfl) rfl (fun wd hS => ?_)
  go_wp2_with fail
  (with_reducible refine (hist_clone hS.1.1.his).mono ?_)
  rintro e w3 ⟨h2, r2, u2, rfl, hh2, hb3⟩
  have hsl : ∀ k, (k = s2 ∨ v2.ownBlock = some k) → k < wd.heap.size := fun k hk => by
    rcases hk with rfl | hk
    · exact hS.2.lt
    · exact (hS.2.owns.lt k hk).2
  have hhl : ∀ k, (k = h2 ∨ k = r2 ∨ u2.ownBlock = some k) → wd.heap.size ≤ k := fun k hk => by
    rcases hk with rfl | rfl | hk
    · exact hh2.low
    · exact hh2.ring.apart.2.1
    · exact hh2.ring.apart.2.2 k hk
  have AP := Lib.hid (And.intro hsl hhl)
  obtain ⟨N2, hN2⟩ : ∃ N, N = wd.heap.size := ⟨_, rfl⟩
  rw [← hN2] at AP
  have hh3 := hh2.lift hS.1.2.size
  have hst2 := stab_and hst (stab_hist (B := w.heap.size) (h := h2) (r := r2) (v := u2) (room := rh) (L := x.pa))
  refine ⟨_, ⟨hst _ _ hS hb3, hh3⟩, hst2, (by first | exact fun _ h => h.1 | exact .inr fun _ h => h.1), ?_⟩
  clear hS hh2 hh3 hb3 hst hsl hhl hN2
  try simp only [act_norm]
  have hst := hst2
  clear hst2
  refine wpAnyE_take 14 (v := .agg #[.int .i64 x.pol.mn, .int .i64 x.pol.mx, .int .i64 x.pol.tg, .int .i64 x.pol.tl, .int .i64 x.pol.wi, .int .i64 x.pol.ho, .bool x.ruled, .int .i64 x.ver, .bool false, .pointer (some ⟨s2, 0, none⟩), .pointer (some ⟨h2, 0, none⟩)]) rfl (by kernel_rfl) (by kernel_rfl) (by kernel_rfl) (fun _ _ _ h => h) hst (EffB.run rfl rfl (fun wd hS => ?_)) (.inr (EffB.run rfl rfl (fun wd hS => ?_))) ?_
  · (go_wp2; exact ⟨rfl, Below.refl _ _⟩)
  · (go_wp2; exact ⟨rfl, Below.refl _ _⟩)
  simp only [act_norm]
  refine wpAnyE_one 15 rfl (by kernel_rfl) rfl (fun wd hS => ?_)
  have hst2 := stab_and hst (stab_heap wd.heap.size (.cells (x.row false s2 h2) 142 (0, 0)))
  have Y1 := Lib.hid (And.intro (hst _ _ hS (below1 wd (.cells (x.row false s2 h2) 142))) (heap_alloc_at wd (.cells (x.row false s2 h2) 142) wd.heap.size rfl))
  have XL : Hid ((∀ k, (k = s2 ∨ v2.ownBlock = some k) → k < wd.heap.size) ∧ (∀ k, (k = h2 ∨ k = r2 ∨ u2.ownBlock = some k) → k < wd.heap.size) ∧ w.heap.size ≤ wd.heap.size) := by
    refine ⟨fun k hk => ?_, fun k hk => ?_, hS.1.1.2.size⟩
    · rcases hk with rfl | hk
      · exact hS.1.2.lt
      · exact (hS.1.2.owns.lt k hk).2
    · rcases hk with rfl | rfl | hk
      · exact lt_of_heap hS.2.row
      · exact hS.2.ring.lt.1
      · exact hS.2.ring.lt.2 k hk
  clear hS
  go_wp2
  refine ⟨_, Y1.out, hst2, (by first | exact fun _ h => h.1 | exact .inr fun _ h => h.1), ?_⟩
  obtain ⟨X, hX⟩ : ∃ X, wd.heap.size = X := ⟨_, rfl⟩
  rw [hX] at hst2 XL ⊢
  clear Y1 hst hX
  try simp only [act_norm]
  have hst := hst2
  clear hst2
  refine wpAnyE_take 16 rfl (by kernel_rfl) (by kernel_rfl) (by kernel_rfl) (fun _ _ _ h => h) hst (EffB.pure rfl (fun _ => rfl)) (.inr (EffB.pure rfl (fun _ => rfl))) ?_
  simp only [act_norm]
  refine wpAnyE_done (by kernel_rfl) (fun wd hS => ?_) _
  have hN : NodeAt wd w.heap.size ⟨X, s2, v2, h2, r2, u2⟩ rs rh false x :=
    ⟨XL.out.2.2, hS.2, hS.1.1.2, hS.1.2, fun k hk => Nat.ne_of_lt (XL.out.1 k hk), fun k hk => Nat.ne_of_lt (XL.out.2.1 k hk), fun k hk hk2 => by have := AP.out.1 k hk; have := AP.out.2 k hk2; omega⟩
  have HN := Lib.hid hN
  have BF := Lib.hid hS.1.1.1.2
  have c7 := hN.cell 7 (c := .int .i64 x.ver) rfl
  have f7 := hN.free 7
  simp only at c7 f7
  have HR := Lib.hid (NS.row_up x false s2 h2)
  obtain ⟨n, en⟩ : ∃ n, n = x.ver := ⟨_, rfl⟩
  rw [← en] at c7 hv HR
  clear hS hN hst en
  go_wp2
  go_ret
  have ht : Turned (fun k => k = X) wd (wd.setCell ⟨X, 7, none⟩ (.int .i64 ((n : Int) + 1))) := (Turned.refl (S := fun k => k = X)).setCell _ (fun _ => rfl)
  have hfin := HN.out.own (y := x.up) (fz2 := false) ht (by rw [heap_setCell_same _ _ _ _ _ _ HN.out.row, HR.out]) rfl rfl
  have hfoot : ∀ k, NI.foot ⟨X, s2, v2, h2, r2, u2⟩ k → w.heap.size ≤ k := fun k hk => (HN.out.lt k hk).1
  exact ⟨⟨X, s2, v2, h2, r2, u2⟩, rfl, ⟨hfin.lift hB, ((Turned.of_below BF.out).trans ht (S := i.may true) (fun k hk e => by have := XL.out.2.2; omega)), .inl fun k hk => .inr (hfoot k hk)⟩, fun k hk => .inr (hfoot k hk)⟩

theorem node_next {fz : Bool} (h : NodeAt w B i rs rh fz x) (hv : x.ver ≤ 100000) (hB : B ≤ w.heap.size) : Calls Try.prog 134 #[i.ptr] w fun e w' => ∃ j : NI, e = .returned j.ptr ∧ NodeOf w B i fz rs rh false x.up j w' ∧ ∀ k, j.foot k → i.may fz k ∨ w.heap.size ≤ k := by
  cases fz with
  | false => exact node_next_open h hv
  | true => exact node_next_frozen h hv hB
end
end Go.Proofs.Ytapgcbjlgekpeaa

/- Layer 17: what is done to a node. -/
namespace Go.Proofs.Ytapgcbjlgekpeaa
open Go.ChangeShapes Go.WideShapes Go.ChangeAt Go.RowKit

def NS.put (x : NS) (rs : Nat) (s : Samp) : NS := { x.up with sa := Ser.put x.sa rs s }
def NS.trim (x : NS) (c : Int) : NS := { x.up with sa := x.sa.drop (Ser.place x.sa c) }
def NS.set (x : NS) (p : Pol) : NS := { x.up with pol := p, ruled := true }
def NS.note (x : NS) (rh : Nat) (a : Adv) : NS := { x.up with pa := Ring.next rh x.pa a }

/-- A series of a node that was turned. -/
theorem NodeAt.serTurn {w w' : World} {B rs rh : Nat} {j : NI} {x : NS} {L : List Samp} {v' : Value} (h : NodeAt w B j rs rh false x) (hs : SerAt w' B j.s v' rs L) (ht : Turned (fun k => k = j.s ∨ j.v.ownBlock = some k) w w') (hv : ∀ k, v'.ownBlock = some k → j.v.ownBlock = some k ∨ w.heap.size ≤ k) :
    NodeOf w B j false rs rh false { x with sa := L } { j with v := v' } w' := by
  have hlt := h.lt
  refine ⟨⟨h.low, (ht.block _ (lt_of_heap h.row) (fun e => h.apS _ e rfl)).trans h.row, hs, ?_, ?_, h.apH, ?_⟩, ht.mono (fun k _ e => ⟨rfl, .inr (.inl e)⟩), .inl fun k hk => ?_⟩
  · exact h.his.turned ht (fun e => h.apX _ e (.inl rfl)) (fun e => h.apX _ e (.inr (.inl rfl))) (fun k hk e => h.apX _ e (.inr (.inr hk)))
  · intro k hk
    rcases hk with rfl | hk
    · exact h.apS _ (.inl rfl)
    · rcases hv k hk with g | g
      · exact h.apS _ (.inr g)
      · have := (hlt j.nb (.inl rfl)).2
        intro e
        rw [e] at g
        show False
        simp only at g
        omega
  · intro k hk hk2
    rcases hk with rfl | hk
    · exact h.apX _ (.inl rfl) hk2
    · rcases hv k hk with g | g
      · exact h.apX _ (.inr g) hk2
      · have := (hlt k (.inr (.inr hk2))).2
        omega
  · rcases hk with rfl | (rfl | hk) | hk
    · exact .inl ⟨rfl, .inl rfl⟩
    · exact .inl ⟨rfl, .inr (.inl (.inl rfl))⟩
    · rcases hv k hk with g | g
      · exact .inl ⟨rfl, .inr (.inl (.inr g))⟩
      · exact .inr g
    · exact .inl ⟨rfl, .inr (.inr hk)⟩
/-- A history of a node that was turned. -/
theorem NodeAt.hisTurn {w w' : World} {B rs rh : Nat} {j : NI} {x : NS} {L : List Adv} {u' : Value} (h : NodeAt w B j rs rh false x) (hs : HistA w' B j.h j.r u' rh L) (ht : Turned (fun k => k = j.r ∨ j.u.ownBlock = some k) w w') (hv : ∀ k, u'.ownBlock = some k → j.u.ownBlock = some k ∨ w.heap.size ≤ k) :
    NodeOf w B j false rs rh false { x with pa := L } { j with u := u' } w' := by
  have hlt := h.lt
  have hin : ∀ k, (k = j.r ∨ j.u.ownBlock = some k) → j.inH k := fun k e => .inr e
  refine ⟨⟨h.low, (ht.block _ (lt_of_heap h.row) (fun e => h.apH _ (hin _ e) rfl)).trans h.row, ?_, hs, h.apS, ?_, ?_⟩, ht.mono (fun k _ e => ⟨rfl, .inr (.inr (hin _ e))⟩), .inl fun k hk => ?_⟩
  · exact h.ser.turned ht (fun e => h.apX _ (.inl rfl) (hin _ e)) (fun k hk e => h.apX _ (.inr hk) (hin _ e))
  · intro k hk
    rcases hk with rfl | rfl | hk
    · exact h.apH _ (.inl rfl)
    · exact h.apH _ (.inr (.inl rfl))
    · rcases hv k hk with g | g
      · exact h.apH _ (.inr (.inr g))
      · have := (hlt j.nb (.inl rfl)).2
        intro e
        rw [e] at g
        simp only at g
        omega
  · intro k hk hk2
    rcases hk2 with rfl | rfl | hk2
    · exact h.apX _ hk (.inl rfl)
    · exact h.apX _ hk (.inr (.inl rfl))
    · rcases hv k hk2 with g | g
      · exact h.apX _ hk (.inr (.inr g))
      · have := (hlt k (.inr (.inl hk))).2
        omega
  · rcases hk with rfl | hk | (rfl | rfl | hk)
    · exact .inl ⟨rfl, .inl rfl⟩
    · exact .inl ⟨rfl, .inr (.inl hk)⟩
    · exact .inl ⟨rfl, .inr (.inr (.inl rfl))⟩
    · exact .inl ⟨rfl, .inr (.inr (.inr (.inl rfl)))⟩
    · rcases hv k hk with g | g
      · exact .inl ⟨rfl, .inr (.inr (.inr (.inr g)))⟩
      · exact .inr g

section
variable {w : World} {B rs rh : Nat} {i : NI} {x : NS} {fz : Bool}
theorem node_put_bad (s : Samp) (hc : Ser.code s ≠ 0) (p : Value) (w : World) : Calls Try.prog 74 #[p, .int .i64 s.tick, .int .i64 s.val] w fun e w' => e = .returned (.tuple #[p, .int .i64 (Ser.code s)]) ∧ w = w' := by
  have P := Lib.hid (ser_right s)
  obtain ⟨c, ec⟩ : ∃ c, c = Ser.code s := ⟨_, rfl⟩
  simp only [← ec] at P hc ⊢
  have hcb : (c != 0) = true := by simpa using hc
  clear ec
  go_enter Try.func74, Try.ntmps74
  go_wp2_with ((with_reducible refine (P.out _).mono ?_); rintro e w1 ⟨rfl, rfl⟩)
  go_ret2
  exact ⟨rfl, rfl⟩
theorem node_put_nil (s : Samp) (hc : Ser.code s = 0) (w : World) : Calls Try.prog 74 #[.pointer none, .int .i64 s.tick, .int .i64 s.val] w fun e w' => e = .returned (.tuple #[.pointer none, .int .i64 5]) ∧ w = w' := by
  have P := ser_right s
  simp only [hc] at P
  have P1 := Lib.hid P
  have P2 := Lib.hid node_made_nil
  clear P hc
  go_enter Try.func74, Try.ntmps74
  go_wp2_with (first | ((with_reducible refine (P1.out _).mono ?_); rintro e w1 ⟨rfl, rfl⟩) | ((with_reducible refine (P2.out _).mono ?_); rintro e w1 ⟨rfl, rfl⟩))
  go_ret2
  exact ⟨rfl, rfl⟩
set_option maxHeartbeats 1000000 in
set_option maxRecDepth 100000 in
theorem node_put (h : NodeAt w B i rs rh fz x) (hv : x.ver ≤ 100000) (hB : B ≤ w.heap.size) (s : Samp) (hc : Ser.code s = 0) : Calls Try.prog 74 #[i.ptr, .int .i64 s.tick, .int .i64 s.val] w fun e w' => ∃ j : NI, e = .returned (.tuple #[j.ptr, .int .i64 0]) ∧ NodeOf w B i fz rs rh false (x.put rs s) j w' := by
  have P := ser_right s
  simp only [hc] at P
  have P1 := Lib.hid P
  have P2 := Lib.hid (node_made h)
  have P3 := Lib.hid (node_next h hv hB)
  have HC := Lib.hid hc
  show Calls Try.prog 74 #[.pointer (some ⟨i.nb, 0, none⟩), .int .i64 s.tick, .int .i64 s.val] w _
  clear h P hc
  go_enter Try.func74, Try.ntmps74
  go_wp2_with (first | ((with_reducible refine (P1.out _).mono ?_); rintro e w1 ⟨rfl, rfl⟩) | ((with_reducible refine P2.out.mono ?_); rintro e w1 ⟨rfl, rfl⟩) | fail)
  (with_reducible refine P3.out.mono ?_)
  rintro e w2 ⟨j, rfl, hN, hF⟩
  have N2 := Lib.hid hN
  have F2 := Lib.hid hF
  have c9 := hN.node.cell 9 (c := .pointer (some ⟨j.s, 0, none⟩)) rfl
  have hp := ser_step hN.node.ser (Nat.le_trans hB hN.turned.size) s
  rw [HC.out, show Ser.step rs x.up.sa s = Ser.put x.sa rs s from if_pos HC.out] at hp
  have P4 := Lib.hid hp
  clear hN hF hp P1 P2 P3
  go_wp2_with fail
  (with_reducible refine P4.out.mono ?_)
  rintro e w3 ⟨rfl, v', hs, ht, hvv⟩
  have R := Lib.hid (N2.out.trans F2.out (N2.out.node.serTurn hs ht hvv))
  clear hs ht hvv P4 c9
  go_wp2
  go_ret2
  exact ⟨{ j with v := v' }, rfl, R.out⟩

theorem Ser.place_zero {L : List Samp} {c : Int} (h : L = [] ∨ c ≤ Ser.tk L 0) : Ser.place L c = 0 := by
  by_cases hp : Ser.place L c = 0
  · exact hp
  · exfalso
    have h1 := Ser.place_lt L c 0 (by omega)
    rcases h with h | h
    · subst h; exact hp rfl
    · omega
theorem Ser.place_pos {L : List Samp} {c : Int} (h0 : L ≠ []) (h : ¬ c ≤ Ser.tk L 0) : Ser.place L c ≠ 0 := by
  intro hp
  have h1 := Ser.place_stop L c (by rw [hp]; exact List.length_pos_iff.2 h0)
  rw [hp] at h1
  exact h h1

set_option maxHeartbeats 1000000 in
set_option maxRecDepth 100000 in
theorem node_trim_no (h : NodeAt w B i rs rh fz x) (c : Int) (hz : x.sa = [] ∨ c ≤ Ser.tk x.sa 0) : Calls Try.prog 79 #[i.ptr, .int .i64 c] w fun e w' => e = .returned (.tuple #[i.ptr, .int .i64 0]) ∧ Below w.heap.size w w' := by
  have P := Lib.hid (node_samples h)
  show Calls Try.prog 79 #[.pointer (some ⟨i.nb, 0, none⟩), .int .i64 c] w _
  obtain ⟨L, eL⟩ : ∃ L, L = x.sa := ⟨_, rfl⟩
  rw [← eL] at P hz
  clear h eL
  cases L with
  | nil =>
    clear hz
    simp only [List.length_nil] at P
    go_enter Try.func79, Try.ntmps79
    go_wp2_with fail
    (with_reducible refine P.out.mono ?_)
    rintro e w2 ⟨p, d, rfl, _, _, hb⟩
    have B2 := Lib.hid hb
    clear hb
    go_wp2
    go_ret2
    exact ⟨rfl, B2.out⟩
  | cons a l =>
    have ha : c ≤ a.tick := by rcases hz with h | h; cases h; exact h
    have HP : Hid (∀ (W : World) (q : Option Addr), Samps W q (a :: l) → ∃ g o, q = some ⟨g, o, none⟩ ∧ W.cell? ⟨g, o, none⟩ = some (.int .i64 a.tick)) := fun W q hq => by
      obtain ⟨g, o, e, _, c0, _⟩ := hq.cells 0 (by simp)
      rw [Nat.zero_mul, Nat.add_zero] at c0
      exact ⟨g, o, e, c0⟩
    obtain ⟨n, en⟩ : ∃ n, (a :: l).length = n + 1 := ⟨_, rfl⟩
    rw [en] at P
    obtain ⟨t, et⟩ : ∃ t, t = a.tick := ⟨_, rfl⟩
    rw [← et] at ha HP
    have d0 : ((n : Int) + 1 == 0) = false := beq_eq_false_iff_ne.2 (by omega)
    have d1 : (0 : Int) < (n : Int) + 1 := by omega
    have d2 : decide (c ≤ t) = true := decide_eq_true ha
    clear hz en et
    go_enter Try.func79, Try.ntmps79
    go_wp2_with fail
    (with_reducible refine P.out.mono ?_)
    rintro e w2 ⟨p, d, rfl, _, hs, hb⟩
    obtain ⟨g, o, rfl, c0⟩ := HP.out w2 p hs
    have B2 := Lib.hid hb
    clear hs hb P HP
    go_wp2
    go_ret2
    exact ⟨rfl, B2.out⟩
set_option maxHeartbeats 1000000 in
set_option maxRecDepth 100000 in
theorem node_trim (h : NodeAt w B i rs rh fz x) (hv : x.ver ≤ 100000) (hB : B ≤ w.heap.size) (c : Int) (h0 : x.sa ≠ []) (hz : ¬ c ≤ Ser.tk x.sa 0) : Calls Try.prog 79 #[i.ptr, .int .i64 c] w fun e w' => ∃ j : NI, e = .returned (.tuple #[j.ptr, .int .i64 (Ser.place x.sa c)]) ∧ NodeOf w B i fz rs rh false (x.trim c) j w' := by
  have P := Lib.hid (node_samples h)
  have HH := Lib.hid h
  have PN := Lib.hid (fun (W : World) (hW : NodeAt W B i rs rh fz x) (hBW : B ≤ W.heap.size) => node_next hW hv hBW)
  have hx : (x.trim c).sa = x.sa.drop (Ser.place x.sa c) := rfl
  have HU : Hid (x.up.sa = x.sa) := rfl
  have HT : Hid ({ x.up with sa := x.sa.drop (Ser.place x.sa c) } = x.trim c) := rfl
  show Calls Try.prog 79 #[.pointer (some ⟨i.nb, 0, none⟩), .int .i64 c] w _
  obtain ⟨L, eL⟩ : ∃ L, L = x.sa := ⟨_, rfl⟩
  rw [← eL] at P hz h0 HT HU ⊢
  clear h hx eL
  cases L with
  | nil => exact absurd rfl h0
  | cons a l =>
    have ha : ¬ c ≤ a.tick := hz
    have HP : Hid (∀ (W : World) (q : Option Addr), Samps W q (a :: l) → ∃ g o, q = some ⟨g, o, none⟩ ∧ W.cell? ⟨g, o, none⟩ = some (.int .i64 a.tick)) := fun W q hq => by
      obtain ⟨g, o, e, _, c0, _⟩ := hq.cells 0 (by simp)
      rw [Nat.zero_mul, Nat.add_zero] at c0
      exact ⟨g, o, e, c0⟩
    obtain ⟨n, en⟩ : ∃ n, (a :: l).length = n + 1 := ⟨_, rfl⟩
    rw [en] at P
    obtain ⟨t, et⟩ : ∃ t, t = a.tick := ⟨_, rfl⟩
    rw [← et] at ha HP
    obtain ⟨K, eK⟩ : ∃ K, K = a :: l := ⟨_, rfl⟩
    rw [← eK] at P HP HU HT ⊢
    obtain ⟨pl, epl⟩ : ∃ pl, pl = Ser.place K c := ⟨_, rfl⟩
    rw [← epl] at HT ⊢
    have EPL := Lib.hid epl
    have EK := Lib.hid eK
    have HLE := Lib.hid (show pl ≤ K.length by rw [epl]; exact Ser.place_le K c)
    have hlen : K.length ≤ 256 := by have := HH.out.ser.len; have := HH.out.ser.room2; rw [HU.out.symm]; show x.sa.length ≤ 256; omega
    have hpl : pl ≤ 256 := by have := HLE.out; omega
    have d0 : ((n : Int) + 1 == 0) = false := beq_eq_false_iff_ne.2 (by omega)
    have d1 : (0 : Int) < (n : Int) + 1 := by omega
    have d2 : decide (c ≤ t) = false := decide_eq_false ha
    clear hz en et h0 epl eK hlen
    go_enter Try.func79, Try.ntmps79
    go_wp2_with fail
    (with_reducible refine P.out.mono ?_)
    rintro e w2 ⟨p, d, rfl, _, hs, hb⟩
    obtain ⟨g, o, rfl, c0⟩ := HP.out w2 p hs
    have H2 := Lib.hid (HH.out.below hb)
    have B2 := Lib.hid hb
    have P3 := Lib.hid (PN.out w2 H2.out (Nat.le_trans hB hb.size))
    clear hs hb P HP PN
    go_wp2_with fail
    (with_reducible refine P3.out.mono ?_)
    rintro e w3 ⟨j, rfl, hN, hF⟩
    have N2 := Lib.hid hN
    have F2 := Lib.hid hF
    have c9 := hN.node.cell 9 (c := .pointer (some ⟨j.s, 0, none⟩)) rfl
    have hp := ser_trim hN.node.ser c
    rw [HU.out, ← EPL.out] at hp
    have P4 := Lib.hid hp
    clear hN hF hp P3 c0
    go_wp2_with fail
    (with_reducible refine P4.out.mono ?_)
    rintro e w4 ⟨rfl, v', hs, ht, hvv⟩
    have hR := N2.out.trans F2.out (N2.out.node.serTurn hs ht hvv)
    rw [HT.out] at hR
    have hR2 : NodeOf w B i fz rs rh false (x.trim c) { j with v := v' } w4 := by
      refine ⟨hR.node, (Turned.of_below B2.out).trans hR.turned (fun _ _ h => h), ?_⟩
      rcases hR.foot with g | g
      · exact .inl fun k hk => (g k hk).imp id (fun h => Nat.le_trans B2.out.size h)
      · exact .inr g
    have R := Lib.hid hR2
    clear hs ht hvv P4 c9 hR hR2
    go_wp2
    go_ret2
    exact ⟨{ j with v := v' }, rfl, R.out⟩
end
end Go.Proofs.Ytapgcbjlgekpeaa

/- Layer 17: a policy is set; a decision is noted. -/
namespace Go.Proofs.Ytapgcbjlgekpeaa
open Go.ChangeShapes Go.WideShapes Go.ChangeAt Go.RowKit

theorem node_set_bad (p : Pol) (hp : p.ok = false) (q : Value) (w : World) : Calls Try.prog 80 #[q, .agg #[.int .i64 p.mn, .int .i64 p.mx, .int .i64 p.tg, .int .i64 p.tl, .int .i64 p.wi, .int .i64 p.ho]] w fun e w' => e = .returned (.tuple #[q, .int .i64 7]) ∧ Below w.heap.size w w' := by
  have P := policy_check p
  rw [show p.err = 7 from if_neg (by simp [hp])] at P
  have P1 := Lib.hid P
  have M0 : Hid (Mem w (w.alloc (.cells #[.int .i64 p.mn, .int .i64 p.mx, .int .i64 p.tg, .int .i64 p.tl, .int .i64 p.wi, .int .i64 p.ho] 25)) [(w.heap.size, .cells #[.int .i64 p.mn, .int .i64 p.mx, .int .i64 p.tg, .int .i64 p.tl, .int .i64 p.wi, .int .i64 p.ho] 25)]) := (Mem.start w).alloc _
  have K0 := Lib.hid (M0.out.heap 0 rfl)
  clear P hp
  go_enter Try.func80, Try.ntmps80
  go_wp2_with (first | ((with_reducible refine wpList_load_rowAs rfl 25 _ rfl (w.heap.size) ?_ 25 #[.int .i64 p.mn, .int .i64 p.mx, .int .i64 p.tg, .int .i64 p.tl, .int .i64 p.wi, .int .i64 p.ho] (0, 0) _ 6 ?_ Try.underlying25 rfl (by kernel_rfl) ?_ ?_); exact rfl; exact K0.out; exact rfl) | fail)
  (with_reducible refine (P1.out _).mono ?_)
  rintro e w1 ⟨rfl, hb⟩
  have B1 := Lib.hid (M0.out.call hb).below
  clear hb
  go_wp2
  go_ret2
  exact ⟨rfl, B1.out⟩
theorem node_set_nil (p : Pol) (hp : p.ok = true) (w : World) : Calls Try.prog 80 #[.pointer none, .agg #[.int .i64 p.mn, .int .i64 p.mx, .int .i64 p.tg, .int .i64 p.tl, .int .i64 p.wi, .int .i64 p.ho]] w fun e w' => e = .returned (.tuple #[.pointer none, .int .i64 5]) ∧ Below w.heap.size w w' := by
  have P := policy_check p
  rw [show p.err = 0 from if_pos hp] at P
  have P1 := Lib.hid P
  have P2 := Lib.hid node_made_nil
  have M0 : Hid (Mem w (w.alloc (.cells #[.int .i64 p.mn, .int .i64 p.mx, .int .i64 p.tg, .int .i64 p.tl, .int .i64 p.wi, .int .i64 p.ho] 25)) [(w.heap.size, .cells #[.int .i64 p.mn, .int .i64 p.mx, .int .i64 p.tg, .int .i64 p.tl, .int .i64 p.wi, .int .i64 p.ho] 25)]) := (Mem.start w).alloc _
  have K0 := Lib.hid (M0.out.heap 0 rfl)
  clear P hp
  go_enter Try.func80, Try.ntmps80
  go_wp2_with (first | ((with_reducible refine wpList_load_rowAs rfl 25 _ rfl (w.heap.size) ?_ 25 #[.int .i64 p.mn, .int .i64 p.mx, .int .i64 p.tg, .int .i64 p.tl, .int .i64 p.wi, .int .i64 p.ho] (0, 0) _ 6 ?_ Try.underlying25 rfl (by kernel_rfl) ?_ ?_); exact rfl; exact K0.out; exact rfl) | fail)
  (with_reducible refine (P1.out _).mono ?_)
  rintro e w1 ⟨rfl, hb⟩
  have B1 := Lib.hid (M0.out.call hb).below
  clear hb
  go_wp2_with ((with_reducible refine (P2.out _).mono ?_); rintro e w1 ⟨rfl, rfl⟩)
  go_ret2
  exact ⟨rfl, B1.out⟩

theorem heap_setCells_row (b : Nat) (t : TypeId) : ∀ (vs : List Value) (o : Nat) (w : World) (cs : Array Value), w.heap[b]? = some (.cells cs t (0, 0)) → ∃ cs' : Array Value, (w.setCells b o vs).heap[b]? = some (.cells cs' t (0, 0)) := by
  intro vs
  induction vs with
  | nil => intro o w cs h; exact ⟨cs, h⟩
  | cons v r ih => intro o w cs h; exact ih (o + 1) _ _ (heap_setCell_same _ _ _ _ _ _ h)

set_option maxHeartbeats 1000000 in
set_option maxRecDepth 100000 in
theorem node_set {w : World} {B rs rh : Nat} {i : NI} {x : NS} {fz : Bool} (h : NodeAt w B i rs rh fz x) (hv : x.ver ≤ 100000) (hB : B ≤ w.heap.size) (p : Pol) (hp : p.ok = true) : Calls Try.prog 80 #[i.ptr, .agg #[.int .i64 p.mn, .int .i64 p.mx, .int .i64 p.tg, .int .i64 p.tl, .int .i64 p.wi, .int .i64 p.ho]] w fun e w' => ∃ j : NI, e = .returned (.tuple #[j.ptr, .int .i64 0]) ∧ NodeOf w B i fz rs rh false (x.set p) j w' := by
  have P := policy_check p
  rw [show p.err = 0 from if_pos hp] at P
  have P1 := Lib.hid P
  have P2 := Lib.hid (fun (W : World) (hW : NodeAt W B i rs rh fz x) => node_made hW)
  have P3 := Lib.hid (fun (W : World) (hW : NodeAt W B i rs rh fz x) (hBW : B ≤ W.heap.size) => node_next hW hv hBW)
  have M0 : Hid (Mem w (w.alloc (.cells #[.int .i64 p.mn, .int .i64 p.mx, .int .i64 p.tg, .int .i64 p.tl, .int .i64 p.wi, .int .i64 p.ho] 25)) [(w.heap.size, .cells #[.int .i64 p.mn, .int .i64 p.mx, .int .i64 p.tg, .int .i64 p.tl, .int .i64 p.wi, .int .i64 p.ho] 25)]) := (Mem.start w).alloc _
  have K0 := Lib.hid (M0.out.heap 0 rfl)
  have HH := Lib.hid h
  have HLT := Lib.hid h.lt
  show Calls Try.prog 80 #[.pointer (some ⟨i.nb, 0, none⟩), .agg #[.int .i64 p.mn, .int .i64 p.mx, .int .i64 p.tg, .int .i64 p.tl, .int .i64 p.wi, .int .i64 p.ho]] w _
  clear h P hp
  go_enter Try.func80, Try.ntmps80
  go_wp2_with (first | ((with_reducible refine wpList_load_rowAs rfl 25 _ rfl (w.heap.size) ?_ 25 #[.int .i64 p.mn, .int .i64 p.mx, .int .i64 p.tg, .int .i64 p.tl, .int .i64 p.wi, .int .i64 p.ho] (0, 0) _ 6 ?_ Try.underlying25 rfl (by kernel_rfl) ?_ ?_); exact rfl; exact K0.out; exact rfl) | fail)
  (with_reducible refine (P1.out _).mono ?_)
  rintro e w1 ⟨rfl, hb⟩
  have M1 := Lib.hid (M0.out.call hb)
  have H1 := Lib.hid (HH.out.below M1.out.below)
  have P4 := Lib.hid (P2.out w1 H1.out)
  have P5 := Lib.hid (P3.out w1 H1.out (Nat.le_trans hB M1.out.below.size))
  clear hb P1 P2 P3 K0
  go_wp2_with (first | ((with_reducible refine P4.out.mono ?_); rintro e w2 ⟨rfl, rfl⟩) | fail)
  (with_reducible refine P5.out.mono ?_)
  rintro e w2 ⟨j, rfl, hN, hF⟩
  have N2 := Lib.hid hN
  have F2 := Lib.hid hF
  have K2 := Lib.hid ((hN.turned.block w.heap.size (lt_of_heap (M1.out.heap 0 rfl)) (fun e => by have := (HLT.out _ e.2).2; omega)).trans (M1.out.heap 0 rfl))
  have g6 := hN.node.free 6
  have HTH : Hid (w2.there j.nb 0 (#[.int .i64 p.mn, .int .i64 p.mx, .int .i64 p.tg, .int .i64 p.tl, .int .i64 p.wi, .int .i64 p.ho] : Array Value).size) := fun k hk => by
    replace hk : k < 6 := hk
    have hr := hN.node.row
    refine ⟨?_, by rw [Nat.zero_add]; exact hN.node.free k⟩
    rw [Nat.zero_add, cell_of_row _ _ _ _ _ _ hr, Array.getElem?_eq_getElem (by unfold NS.row; simp; omega)]
    rfl
  clear hN hF P4 P5 g6
  obtain ⟨W3, hW3⟩ : ∃ W, W = w2.setCells j.nb 0 (#[.int .i64 p.mn, .int .i64 p.mx, .int .i64 p.tg, .int .i64 p.tl, .int .i64 p.wi, .int .i64 p.ho] : Array Value).toList := ⟨_, rfl⟩
  have hr3 : W3.heap[j.nb]? = some (.cells #[.int .i64 p.mn, .int .i64 p.mx, .int .i64 p.tg, .int .i64 p.tl, .int .i64 p.wi, .int .i64 p.ho, .bool x.ruled, .int .i64 x.up.ver, .bool false, .pointer (some ⟨j.s, 0, none⟩), .pointer (some ⟨j.h, 0, none⟩)] 142 (0, 0)) := by
    rw [hW3]
    have hr := N2.out.node.row
    simp only [World.setCells]
    have := heap_setCell_same _ _ 5 _ _ (.int .i64 p.ho) (heap_setCell_same _ _ 4 _ _ (.int .i64 p.wi) (heap_setCell_same _ _ 3 _ _ (.int .i64 p.tl) (heap_setCell_same _ _ 2 _ _ (.int .i64 p.tg) (heap_setCell_same _ _ 1 _ _ (.int .i64 p.mx) (heap_setCell_same _ _ 0 _ _ (.int .i64 p.mn) hr)))))
    exact this
  have ht3 : Turned (fun k => k = j.nb) w2 W3 := by rw [hW3]; exact turned_setCells _ _ _ _ _ rfl
  have c6 : W3.cell? ⟨j.nb, 6, none⟩ = some (.bool x.ruled) := by rw [cell_of_row _ _ _ _ _ _ hr3]; rfl
  have f6 : W3.frozen? ⟨j.nb, 6, none⟩ = false := frozen_of_row _ _ _ _ _ hr3
  have R3 := Lib.hid hr3
  have T3 := Lib.hid ht3
  have HW3 := Lib.hid hW3
  clear hr3 ht3 hW3
  go_wp2_with (first | ((with_reducible refine wpList_load_rowAs rfl 25 _ rfl (w.heap.size) ?_ 25 #[.int .i64 p.mn, .int .i64 p.mx, .int .i64 p.tg, .int .i64 p.tl, .int .i64 p.wi, .int .i64 p.ho] (0, 0) _ 6 ?_ Try.underlying25 rfl (by kernel_rfl) ?_ ?_); exact rfl; exact K2.out; exact rfl) | ((with_reducible refine wpList_store_mid rfl 25 _ _ rfl j.nb 0 #[.int .i64 p.mn, .int .i64 p.mx, .int .i64 p.tg, .int .i64 p.tl, .int .i64 p.wi, .int .i64 p.ho] ?_ ?_ HTH.out (by kernel_rfl) (by simp [Value.oneCell']) ?_); exact rfl; exact rfl; rw [← HW3.out]))
  go_ret2
  have ht4 : Turned (fun k => k = j.nb) w2 (W3.setCell ⟨j.nb, 6, none⟩ (.bool true)) := T3.out.setCell _ (fun _ => rfl)
  have hn4 := N2.out.node.own (y := x.set p) (fz2 := false) ht4 (by rw [heap_setCell_same _ _ _ _ _ _ R3.out]; rfl) rfl rfl
  have hof : NodeOf w2 B j false rs rh false (x.set p) j (W3.setCell ⟨j.nb, 6, none⟩ (.bool true)) := ⟨hn4, ht4.mono (fun k _ e => ⟨rfl, .inl e⟩), .inr rfl⟩
  have hR := N2.out.trans F2.out hof
  refine ⟨j, rfl, hR.node, (Turned.of_below M1.out.below).trans hR.turned (fun _ _ h => h), ?_⟩
  rcases hR.foot with g | g
  · exact .inl fun k hk => (g k hk).imp id (fun h => Nat.le_trans M1.out.below.size h)
  · exact .inr g
end Go.Proofs.Ytapgcbjlgekpeaa

/- Layer 17: a decision is noted; a nil node. -/
namespace Go.Proofs.Ytapgcbjlgekpeaa
open Go.ChangeShapes Go.WideShapes Go.ChangeAt Go.RowKit

theorem node_trim_nil (c : Int) (w : World) : Calls Try.prog 79 #[.pointer none, .int .i64 c] w fun e w' => e = .returned (.tuple #[.pointer none, .int .i64 0]) ∧ w = w' := by
  have P := Lib.hid node_samples_nil
  go_enter Try.func79, Try.ntmps79
  go_wp2_with ((with_reducible refine (P.out _).mono ?_); rintro e w1 ⟨rfl, rfl⟩)
  go_ret2
  exact ⟨rfl, rfl⟩
theorem node_freeze_nil (w : World) : Calls Try.prog 24 #[.pointer none] w fun e w' => e = .returned (.pointer none) ∧ w = w' := by
  have P := Lib.hid node_made_nil
  go_enter Try.func24, Try.ntmps24
  go_wp2_with ((with_reducible refine (P.out _).mono ?_); rintro e w1 ⟨rfl, rfl⟩)
  go_ret
  exact ⟨rfl, rfl⟩
theorem node_note_nil (a : Adv) (w : World) : Calls Try.prog 81 #[.pointer none, .agg #[.int .i64 a.tick, .int .i64 a.load, .int .i64 a.want, .int .i64 a.repl, .int .i64 a.why]] w fun e w' => e = .returned (.pointer none) ∧ Below w.heap.size w w' := by
  have P := Lib.hid node_made_nil
  go_enter Try.func81, Try.ntmps81
  go_wp2_with ((with_reducible refine (P.out _).mono ?_); rintro e w1 ⟨rfl, rfl⟩)
  go_ret
  exact ⟨rfl, below1 _ _⟩
set_option maxRecDepth 100000 in
theorem node_policy_nil (w : World) : Calls Try.prog 87 #[.pointer none] w fun e w' => e = .returned (.tuple #[.agg #[.int .i64 0, .int .i64 0, .int .i64 0, .int .i64 0, .int .i64 0, .int .i64 0], .bool false]) ∧ Below w.heap.size w w' := by
  have K : Hid ((w.alloc (.cells #[.int .i64 0, .int .i64 0, .int .i64 0, .int .i64 0, .int .i64 0, .int .i64 0] 25)).heap[w.heap.size]? = some (.cells #[.int .i64 0, .int .i64 0, .int .i64 0, .int .i64 0, .int .i64 0, .int .i64 0] 25 (0, 0))) := heap_alloc_at _ _ _ rfl
  go_enter Try.func87, Try.ntmps87
  go_wp2_with (first | ((with_reducible refine wpList_store_rowAs rfl 25 _ _ rfl (w.heap.size) #[.int .i64 0, .int .i64 0, .int .i64 0, .int .i64 0, .int .i64 0, .int .i64 0] ?_ ?_ 25 #[.int .i64 0, .int .i64 0, .int .i64 0, .int .i64 0, .int .i64 0, .int .i64 0] 6 ?_ (by kernel_rfl) rfl rfl (by simp [Value.oneCell']) ?_); exact rfl; exact rfl; exact K.out; (first | rw [row_1_0] | rw [row_2_0] | rw [row_2_1] | rw [row_3_0] | rw [row_3_1] | rw [row_3_2] | rw [row_4_0] | rw [row_4_1] | rw [row_4_2] | rw [row_4_3] | rw [row_5_0] | rw [row_5_1] | rw [row_5_2] | rw [row_5_3] | rw [row_5_4] | rw [row_6_0] | rw [row_6_1] | rw [row_6_2] | rw [row_6_3] | rw [row_6_4] | rw [row_6_5] | simp only [setRow_alloc_past, setRow_alloc_at, World.size_alloc, Nat.add_assoc, Nat.reduceAdd, Nat.lt_add_right_iff_pos, Nat.add_lt_add_iff_left, Nat.reduceLT, Nat.zero_lt_succ, Nat.lt_add_one])) | fail)
  exact bodyPost_ret (results_row_tmp rfl _ _ w.heap.size 25 #[.int .i64 0, .int .i64 0, .int .i64 0, .int .i64 0, .int .i64 0, .int .i64 0] (0, 0) _ 6 _ rfl rfl K.out Try.underlying25 rfl polInfo rfl) rfl ⟨rfl, below1 _ _⟩

section
variable {w : World} {B rs rh : Nat} {i : NI} {x : NS} {fz : Bool}
set_option maxHeartbeats 1000000 in
set_option maxRecDepth 100000 in
theorem node_note (h : NodeAt w B i rs rh fz x) (hv : x.ver ≤ 100000) (hB : B ≤ w.heap.size) (a : Adv) : Calls Try.prog 81 #[i.ptr, .agg #[.int .i64 a.tick, .int .i64 a.load, .int .i64 a.want, .int .i64 a.repl, .int .i64 a.why]] w fun e w' => ∃ j : NI, e = .returned j.ptr ∧ NodeOf w B i fz rs rh false (x.note rh a) j w' := by
  have M0 : Hid (Mem w (w.alloc (.cells #[.int .i64 a.tick, .int .i64 a.load, .int .i64 a.want, .int .i64 a.repl, .int .i64 a.why] 27)) [(w.heap.size, .cells #[.int .i64 a.tick, .int .i64 a.load, .int .i64 a.want, .int .i64 a.repl, .int .i64 a.why] 27)]) := (Mem.start w).alloc _
  have H1 := Lib.hid (h.below M0.out.below)
  have P2 := Lib.hid (node_made H1.out)
  have P3 := Lib.hid (node_next H1.out hv (Nat.le_trans hB M0.out.below.size))
  have HLT := Lib.hid h.lt
  show Calls Try.prog 81 #[.pointer (some ⟨i.nb, 0, none⟩), .agg #[.int .i64 a.tick, .int .i64 a.load, .int .i64 a.want, .int .i64 a.repl, .int .i64 a.why]] w _
  clear h
  go_enter Try.func81, Try.ntmps81
  go_wp2_with (first | ((with_reducible refine P2.out.mono ?_); rintro e w1 ⟨rfl, rfl⟩) | fail)
  (with_reducible refine P3.out.mono ?_)
  rintro e w2 ⟨j, rfl, hN, hF⟩
  have N2 := Lib.hid hN
  have F2 := Lib.hid hF
  have hr := hN.turned.block w.heap.size (by simp) (fun e => by have := (HLT.out _ e.2).2; omega)
  have K2 := Lib.hid (hr.trans (M0.out.heap 0 rfl))
  clear hN hF hr P2 P3
  have hst := stab_and (stab_node (B := B) (i := j) (rs := rs) (rh := rh) (fz := false) (x := x.up)) (stab_and (stab_below (B := w2.heap.size) (w0 := w2) (Nat.le_refl _)) (stab_heap w.heap.size (.cells #[.int .i64 a.tick, .int .i64 a.load, .int .i64 a.want, .int .i64 a.repl, .int .i64 a.why] 27 (0, 0))))
  go_wp2_with fail
  refine wp_region_E mixed [5] hst ⟨N2.out.node.below (below_drew (Below.refl _ _)), below_drew (Below.refl _ _), K2.out⟩ ?_
  refine wpAnyE_take 0 rfl (by kernel_rfl) (by kernel_rfl) (by kernel_rfl) (fun _ _ _ h => h) hst (EffB.pure rfl (fun _ => rfl)) (.inr (EffB.pure rfl (fun _ => rfl))) ?_
  simp only [act_norm]
  refine wpAnyE_take 1 (v := .pointer (some ⟨j.nb, 0, none⟩)) rfl (by kernel_rfl) (by kernel_rfl) (by kernel_rfl) (fun _ _ _ h => h) hst (EffB.run rfl rfl (fun wd hS => ?_)) (.inr (EffB.run rfl rfl (fun wd hS => ?_))) ?_
  · (go_wp2; exact ⟨rfl, Below.refl _ _⟩)
  · (go_wp2; exact ⟨rfl, Below.refl _ _⟩)
  simp only [act_norm]
  refine wpAnyE_take 2 (v := .pointer (some ⟨j.nb, 10, none⟩)) rfl (by kernel_rfl) (by kernel_rfl) (by kernel_rfl) (fun _ _ _ h => h) hst (EffB.run rfl rfl (fun wd hS => ?_)) (.inr (EffB.run rfl rfl (fun wd hS => ?_))) ?_
  · (go_wp2; exact ⟨rfl, Below.refl _ _⟩)
  · (go_wp2; exact ⟨rfl, Below.refl _ _⟩)
  simp only [act_norm]
  refine wpAnyE_take 3 (v := .pointer (some ⟨j.h, 0, none⟩)) rfl (by kernel_rfl) (by kernel_rfl) (by kernel_rfl) (fun _ _ _ h => h) hst (EffB.run rfl rfl (fun wd hS => ?_)) (.inl (by kernel_rfl)) ?_
  · (have c10 := hS.1.cell 10 (c := .pointer (some ⟨j.h, 0, none⟩)) rfl; go_wp2; exact ⟨rfl, Below.refl _ _⟩)
  simp only [act_norm]
  refine wpAnyE_take 4 (v := .agg #[.int .i64 a.tick, .int .i64 a.load, .int .i64 a.want, .int .i64 a.repl, .int .i64 a.why]) rfl (by kernel_rfl) (by kernel_rfl) (by kernel_rfl) (fun _ _ _ h => h) hst (EffB.run rfl rfl (fun wd hS => ?_)) (.inl (by kernel_rfl)) ?_
  · exact wp_load_row 27 _ rfl (w.heap.size) rfl 27 #[.int .i64 a.tick, .int .i64 a.load, .int .i64 a.want, .int .i64 a.repl, .int .i64 a.why] (0, 0) _ (hS.2.2) Try.underlying27 rfl (by kernel_rfl) ⟨rfl, Below.refl _ _⟩
  simp only [act_norm]
  refine wpAnyE_one 5 rfl (by kernel_rfl) rfl (fun wd hS => ?_)
  go_wp2_with fail
  (with_reducible refine (hist_add hS.1.his (Nat.le_trans (Nat.le_trans (Nat.le_trans hB M0.out.below.size) N2.out.turned.size) hS.2.1.size) a).mono ?_)
  rintro e w3 ⟨rfl, v', hs, ht, hvv⟩
  have hR := (N2.out.call hS.2.1).trans F2.out (hS.1.hisTurn hs ht hvv)
  have R := Lib.hid hR
  clear hS hs ht hvv hR hst
  refine ⟨_, R.out, (stab_nodeOf : Stab (fun w' => NodeOf _ B i fz rs rh false _ { j with u := v' } w')), ?_⟩
  try simp only [act_norm]
  refine wpAnyE_done (by kernel_rfl) (fun wd hS => ?_) _
  have HS := Lib.hid hS
  clear hS
  go_wp2
  go_ret
  refine ⟨{ j with u := v' }, rfl, HS.out.node, (Turned.of_below M0.out.below).trans HS.out.turned (fun _ _ h => h), ?_⟩
  rcases HS.out.foot with g | g
  · exact .inl fun k hk => (g k hk).imp id (fun h => Nat.le_trans M0.out.below.size h)
  · exact .inr g
end
end Go.Proofs.Ytapgcbjlgekpeaa

/- Layer 17: a config; a new node. -/
namespace Go.Proofs.Ytapgcbjlgekpeaa
open Go.ChangeShapes Go.WideShapes Go.ChangeAt Go.RowKit

/-- A config. -/
structure Cfg where
  st : Int
  sa : Int
  lo : Int
  hi : Int
structure Cfg.In (c : Cfg) : Prop where
  st : I64 c.st
  sa : I64 c.sa
  lo : I64 c.lo
  hi : I64 c.hi
structure Cfg.Fine (c : Cfg) : Prop where
  st : 0 ≤ Route.bits c.st
  sa : 1 ≤ c.sa ∧ c.sa ≤ 256
  lo : 1 ≤ c.lo ∧ c.lo ≤ 256
  hi : 1 ≤ c.hi ∧ c.hi ≤ 64
abbrev Cfg.row (c : Cfg) : Array Value := #[.int .i64 c.st, .int .i64 c.sa, .int .i64 c.lo, .int .i64 c.hi]
theorem cfgInfo : (Try.prog.info? 34).map (·.size) = some 4 := by kernel_rfl

set_option maxHeartbeats 1000000 in
theorem node_right (c : Cfg) (hc : c.In) (w : World) : Calls Try.prog 23 #[.agg #[.int .i64 c.st, .int .i64 c.sa, .int .i64 c.lo, .int .i64 c.hi]] w fun e w' => ∃ r : Int, e = .returned (.int .i64 r) ∧ (c.Fine → r = 0) ∧ (¬ c.Fine → r = 1) ∧ Below w.heap.size w w' := by
  have P := Lib.hid (route_right c.st hc.st)
  have HY : Hid ((¬ 0 ≤ Route.bits c.st ∨ c.sa < 1 ∨ 256 < c.sa ∨ c.lo < 1 ∨ 256 < c.lo ∨ c.hi < 1 ∨ 64 < c.hi) → ¬ c.Fine) := fun h g => by rcases h with h | h | h | h | h | h | h <;> (have := g.st; have := g.sa; have := g.lo; have := g.hi; first | exact h g.st | omega)
  have HN : Hid (0 ≤ Route.bits c.st → ¬ c.sa < 1 → ¬ 256 < c.sa → ¬ c.lo < 1 → ¬ 256 < c.lo → ¬ c.hi < 1 → ¬ 64 < c.hi → c.Fine) := fun h0 h1 h2 h3 h4 h5 h6 => ⟨h0, by omega, by omega, by omega⟩
  clear hc
  obtain ⟨st, sa, lo, hi⟩ := c
  simp only at P HY HN
  by_cases hb : 0 ≤ Route.bits st
  · have HB := Lib.hid hb
    rw [decide_eq_true hb] at P
    clear hb
    go_enter Try.func23, Try.ntmps23
    go_wp2_with ((with_reducible refine (P.out _).mono ?_); rintro e w1 ⟨rfl, rfl⟩)
    all_goals go_ret
    all_goals first
      | exact ⟨_, rfl, fun h => absurd h (HY.out (by omega)), fun _ => rfl, below1 _ _⟩
      | exact ⟨_, rfl, fun _ => rfl, fun h => absurd (HN.out HB.out (by omega) (by omega) (by omega) (by omega) (by omega) (by omega)) h, below1 _ _⟩
  · have HB := Lib.hid hb
    rw [decide_eq_false hb] at P
    clear hb
    go_enter Try.func23, Try.ntmps23
    go_wp2_with ((with_reducible refine (P.out _).mono ?_); rintro e w1 ⟨rfl, rfl⟩)
    go_ret
    exact ⟨_, rfl, fun h => absurd h (HY.out (.inl HB.out)), fun _ => rfl, below1 _ _⟩

set_option maxRecDepth 100000 in
theorem node_new_no (c : Cfg) (hc : c.In) (hf : ¬ c.Fine) (w : World) : Calls Try.prog 16 #[.agg #[.int .i64 c.st, .int .i64 c.sa, .int .i64 c.lo, .int .i64 c.hi]] w fun e w' => e = .returned (.pointer none) ∧ Below w.heap.size w w' := by
  have P : Hid (∀ W : World, Calls Try.prog 23 #[.agg #[.int .i64 c.st, .int .i64 c.sa, .int .i64 c.lo, .int .i64 c.hi]] W fun e w' => e = .returned (.int .i64 1) ∧ Below W.heap.size W w') := fun W => (node_right c hc W).mono (by rintro e w' ⟨r, rfl, _, h, hb⟩; rw [h hf]; exact ⟨rfl, hb⟩)
  have K0 : Hid ((w.alloc (.cells c.row 34)).heap[w.heap.size]? = some (.cells c.row 34 (0, 0))) := heap_alloc_at _ _ _ rfl
  clear hc hf
  go_enter Try.func16, Try.ntmps16
  go_wp2_with (first | ((with_reducible refine wpList_load_rowAs rfl 34 _ rfl (w.heap.size) ?_ 34 c.row (0, 0) _ 4 ?_ Try.underlying34 rfl (by kernel_rfl) ?_ ?_); exact rfl; exact K0.out; exact rfl) | fail)
  (with_reducible refine (P.out _).mono ?_)
  rintro e w1 ⟨rfl, hb⟩
  have B1 := Lib.hid ((below1 w (.cells c.row 34)).trans (hb.mono (by simp)))
  clear hb
  go_wp2
  go_ret
  exact ⟨rfl, B1.out⟩

set_option maxHeartbeats 1000000 in
set_option maxRecDepth 100000 in
theorem node_new (c : Cfg) (hc : c.In) (hf : c.Fine) (rs rh : Nat) (hrs : c.sa = rs) (hrh : c.hi = rh) (w : World) : Calls Try.prog 16 #[.agg #[.int .i64 c.st, .int .i64 c.sa, .int .i64 c.lo, .int .i64 c.hi]] w fun e w' => ∃ j : NI, e = .returned j.ptr ∧ NodeAt w' w.heap.size j rs rh false NS.zero ∧ Below w.heap.size w w' := by
  have P : Hid (∀ W : World, Calls Try.prog 23 #[.agg #[.int .i64 c.st, .int .i64 c.sa, .int .i64 c.lo, .int .i64 c.hi]] W fun e w' => e = .returned (.int .i64 0) ∧ Below W.heap.size W w') := fun W => (node_right c hc W).mono (by rintro e w' ⟨r, rfl, h, _, hb⟩; rw [h hf]; exact ⟨rfl, hb⟩)
  have S1 := Lib.hid (ser_new rs (by have := hf.sa; omega) (by have := hf.sa; omega))
  have S2 := Lib.hid (hist_new rh (by have := hf.hi; omega) (by have := hf.hi; omega))
  obtain ⟨st, sa, lo, hi⟩ := c
  simp only at hrs hrh P
  subst hrs hrh
  clear hc hf
  have K0 : Hid ((w.alloc (.cells #[.int .i64 st, .int .i64 rs, .int .i64 lo, .int .i64 rh] 34)).heap[w.heap.size]? = some (.cells #[.int .i64 st, .int .i64 rs, .int .i64 lo, .int .i64 rh] 34 (0, 0))) := heap_alloc_at _ _ _ rfl
  go_enter Try.func16, Try.ntmps16
  go_wp2_with (first | ((with_reducible refine wpList_load_rowAs rfl 34 _ rfl (w.heap.size) ?_ 34 #[.int .i64 st, .int .i64 rs, .int .i64 lo, .int .i64 rh] (0, 0) _ 4 ?_ Try.underlying34 rfl (by kernel_rfl) ?_ ?_); exact rfl; exact K0.out; exact rfl) | fail)
  (with_reducible refine (P.out _).mono ?_)
  rintro e w1 ⟨rfl, hb⟩
  have B1 := Lib.hid ((below1 w (.cells #[.int .i64 st, .int .i64 rs, .int .i64 lo, .int .i64 rh] 34)).trans (hb.mono (by simp)))
  have K1 := Lib.hid ((hb.block _ (lt_of_heap K0.out)).trans K0.out)
  clear hb K0 P
  go_wp2_with fail
  have hst := stab_and (stab_heap w.heap.size (.cells #[.int .i64 st, .int .i64 rs, .int .i64 lo, .int .i64 rh] 34 (0, 0))) (stab_below (B := w.heap.size) (w0 := w) (Nat.le_refl _))
  refine wp_region_E mixed [] hst ⟨K1.out, below_drew B1.out⟩ ?_
  refine wpAnyE_take 0 (v := .pointer (some ⟨w.heap.size, 1, none⟩)) rfl (by kernel_rfl) (by kernel_rfl) (by kernel_rfl) (fun _ _ _ h => h) hst (EffB.run rfl rfl (fun wd hS => ?_)) (.inr (EffB.run rfl rfl (fun wd hS => ?_))) ?_
  · (go_wp2; exact ⟨rfl, Below.refl _ _⟩)
  · (go_wp2; exact ⟨rfl, Below.refl _ _⟩)
  simp only [act_norm]
  refine wpAnyE_take 1 (v := .int .i64 rs) rfl (by kernel_rfl) (by kernel_rfl) (by kernel_rfl) (fun _ _ _ h => h) hst (EffB.run rfl rfl (fun wd hS => ?_)) (.inl (by kernel_rfl)) ?_
  · (have c2 : wd.cell? ⟨w.heap.size, 1, none⟩ = some (.int .i64 rs) := by rw [cell_of_row _ _ _ _ _ _ hS.1]; rfl); go_wp2; exact ⟨rfl, Below.refl _ _⟩
  simp only [act_norm]
  refine wpAnyE_take 3 (v := .pointer (some ⟨w.heap.size, 3, none⟩)) rfl (by kernel_rfl) (by kernel_rfl) (by kernel_rfl) (fun _ _ _ h => h) hst (EffB.run rfl rfl (fun wd hS => ?_)) (.inr (EffB.run rfl rfl (fun wd hS => ?_))) ?_
  · (go_wp2; exact ⟨rfl, Below.refl _ _⟩)
  · (go_wp2; exact ⟨rfl, Below.refl _ _⟩)
  simp only [act_norm]
  refine wpAnyE_take 4 (v := .int .i64 rh) rfl (by kernel_rfl) (by kernel_rfl) (by kernel_rfl) (fun _ _ _ h => h) hst (EffB.run rfl rfl (fun wd hS => ?_)) (.inl (by kernel_rfl)) ?_
  · (have c2 : wd.cell? ⟨w.heap.size, 3, none⟩ = some (.int .i64 rh) := by rw [cell_of_row _ _ _ _ _ _ hS.1]; rfl); go_wp2; exact ⟨rfl, Below.refl _ _⟩
  simp only [act_norm]
  refine wpAnyE_one 2 rfl (by kernel_rfl) rfl (fun wd hS => ?_)
  go_wp2_with fail
  (with_reducible refine (S1.out wd).mono ?_)
  rintro e w2 ⟨s2, rfl, hs2, hb2⟩
  have hs3 := hs2.lift hS.2.size
  have hst2 := stab_and hst (stab_ser (B := w.heap.size) (s := s2) (v := .slice none 0 0) (room := rs) (L := []))
  refine ⟨_, ⟨hst _ _ hS hb2, hs3⟩, hst2, (by first | exact fun _ h => h.1 | exact .inr fun _ h => h.1), ?_⟩
  clear hS hs2 hs3 hb2 hst
  try simp only [act_norm]
  have hst := hst2
  clear hst2
  refine wpAnyE_one 5 rfl (by kernel_rfl) rfl (fun wd hS => ?_)
  go_wp2_with fail
  (with_reducible refine (S2.out wd).mono ?_)
  rintro e w3 ⟨h2, r2, rfl, hh2, hb3⟩
  have AP : Hid (s2 < wd.heap.size ∧ wd.heap.size ≤ h2 ∧ wd.heap.size ≤ r2) := ⟨hS.2.lt, hh2.low, hh2.ring.apart.2.1⟩
  obtain ⟨N2, hN2⟩ : ∃ N, N = wd.heap.size := ⟨_, rfl⟩
  rw [← hN2] at AP
  have hh3 := hh2.lift hS.1.2.size
  have hst2 := stab_and hst (stab_hist (B := w.heap.size) (h := h2) (r := r2) (v := .slice none 0 0) (room := rh) (L := []))
  refine ⟨_, ⟨hst _ _ hS hb3, hh3⟩, hst2, (by first | exact fun _ h => h.1 | exact .inr fun _ h => h.1), ?_⟩
  clear hS hh2 hh3 hb3 hst hN2
  try simp only [act_norm]
  have hst := hst2
  clear hst2
  refine wpAnyE_take 6 (v := .agg (NS.zero.row false s2 h2)) rfl (by kernel_rfl) (by kernel_rfl) (by kernel_rfl) (fun _ _ _ h => h) hst (EffB.run rfl rfl (fun wd hS => ?_)) (.inr (EffB.run rfl rfl (fun wd hS => ?_))) ?_
  · (go_wp2; exact ⟨rfl, Below.refl _ _⟩)
  · (go_wp2; exact ⟨rfl, Below.refl _ _⟩)
  simp only [act_norm]
  refine wpAnyE_one 7 rfl (by kernel_rfl) rfl (fun wd hS => ?_)
  have hst2 := stab_and hst (stab_heap wd.heap.size (.cells (NS.zero.row false s2 h2) 142 (0, 0)))
  have Y1 := Lib.hid (And.intro (hst _ _ hS (below1 wd (.cells (NS.zero.row false s2 h2) 142))) (heap_alloc_at wd (.cells (NS.zero.row false s2 h2) 142) wd.heap.size rfl))
  have XL : Hid (s2 < wd.heap.size ∧ h2 < wd.heap.size ∧ r2 < wd.heap.size ∧ w.heap.size ≤ wd.heap.size) := ⟨hS.1.2.lt, lt_of_heap hS.2.row, hS.2.ring.lt.1, hS.1.1.2.size⟩
  clear hS
  go_wp2
  refine ⟨_, Y1.out, hst2, (by first | exact fun _ h => h.1 | exact .inr fun _ h => h.1), ?_⟩
  obtain ⟨X, hX⟩ : ∃ X, wd.heap.size = X := ⟨_, rfl⟩
  rw [hX] at hst2 XL ⊢
  clear Y1 hst hX
  try simp only [act_norm]
  have hst := hst2
  clear hst2
  refine wpAnyE_take 8 rfl (by kernel_rfl) (by kernel_rfl) (by kernel_rfl) (fun _ _ _ h => h) hst (EffB.pure rfl (fun _ => rfl)) (.inr (EffB.pure rfl (fun _ => rfl))) ?_
  simp only [act_norm]
  refine wpAnyE_done (by kernel_rfl) (fun wd hS => ?_) _
  have hno : ∀ k, (Value.slice none 0 0).ownBlock ≠ some k := fun k e => by simp [Value.ownBlock] at e
  have hN : NodeAt wd w.heap.size ⟨X, s2, .slice none 0 0, h2, r2, .slice none 0 0⟩ rs rh false NS.zero := by
    have g1 := XL.out
    have g2 := AP.out
    refine ⟨XL.out.2.2.2, hS.2, hS.1.1.2, hS.1.2, fun k hk => ?_, fun k hk => ?_, fun k hk hk2 => ?_⟩
    · rcases hk with hk | hk
      · have : k = s2 := hk
        show k ≠ X
        omega
      · exact absurd hk (hno k)
    · rcases hk with hk | hk | hk
      · have : k = h2 := hk
        show k ≠ X
        omega
      · have : k = r2 := hk
        show k ≠ X
        omega
      · exact absurd hk (hno k)
    · rcases hk with hk | hk
      · have h1 : k = s2 := hk
        rcases hk2 with hk2 | hk2 | hk2
        · have : k = h2 := hk2
          omega
        · have : k = r2 := hk2
          omega
        · exact absurd hk2 (hno _)
      · exact absurd hk (hno k)
  have HN := Lib.hid hN
  have BF := Lib.hid hS.1.1.1.2
  clear hS hN hst
  go_wp2
  go_ret
  exact ⟨⟨X, s2, .slice none 0 0, h2, r2, .slice none 0 0⟩, rfl, HN.out, BF.out⟩
end Go.Proofs.Ytapgcbjlgekpeaa
