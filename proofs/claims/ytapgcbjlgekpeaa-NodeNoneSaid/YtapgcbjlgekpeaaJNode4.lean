/- Layer 17: a policy is set; a decision is noted. -/
import Derived.Test.YtapgcbjlgekpeaaJNode3
namespace Go.Proofs.Ytapgcbjlgekpeaa
open Go.ChangeShapes Go.WideShapes Go.ChangeAt Go.RowKit

theorem node_set_bad (p : Pol) (hp : p.ok = false) (q : Value) (w : World) : Calls Try.prog 80 #[q, .agg #[.int .i64 p.mn, .int .i64 p.mx, .int .i64 p.tg, .int .i64 p.tl, .int .i64 p.wi, .int .i64 p.ho]] w fun e w' => e = .returned (.tuple #[q, .int .i64 7]) ∧ Below w.heap.size w w' := by
  have P := policy_check p
  rw [show p.err = 7 from if_neg (by simp [hp])] at P
  have P1 := Lib.hid P
  have M0 : Hid (Mem w (w.alloc (.cells #[.int .i64 p.mn, .int .i64 p.mx, .int .i64 p.tg, .int .i64 p.tl, .int .i64 p.wi, .int .i64 p.ho] 25)) [(w.heap.size, .cells #[.int .i64 p.mn, .int .i64 p.mx, .int .i64 p.tg, .int .i64 p.tl, .int .i64 p.wi, .int .i64 p.ho] 25)]) := (Mem.start w).alloc _
  have K0 := Lib.hid (M0.out.heap 0 rfl)
  clear P hp
  go_enter Try.func80, Try.ntmps80
  go_wp2_with (first | ((with_reducible refine wpList_load_rowAs rfl 25 _ rfl (w.heap.size) ?_ 25 #[.int .i64 p.mn, .int .i64 p.mx, .int .i64 p.tg, .int .i64 p.tl, .int .i64 p.wi, .int .i64 p.ho] (0, 0) _ 6 ?_ Try.underlying25 rfl (by kernel_rfl) ?_ ?_); exact rfl; exact K0.out; exact rfl) | fail)
  (with_reducible refine (P1.out _).mono ?_)
  rintro e w1 ⟨rfl, hb⟩
  have B1 := Lib.hid (M0.out.call hb).below
  clear hb
  go_wp2
  go_ret2
  exact ⟨rfl, B1.out⟩
theorem node_set_nil (p : Pol) (hp : p.ok = true) (w : World) : Calls Try.prog 80 #[.pointer none, .agg #[.int .i64 p.mn, .int .i64 p.mx, .int .i64 p.tg, .int .i64 p.tl, .int .i64 p.wi, .int .i64 p.ho]] w fun e w' => e = .returned (.tuple #[.pointer none, .int .i64 5]) ∧ Below w.heap.size w w' := by
  have P := policy_check p
  rw [show p.err = 0 from if_pos hp] at P
  have P1 := Lib.hid P
  have P2 := Lib.hid node_made_nil
  have M0 : Hid (Mem w (w.alloc (.cells #[.int .i64 p.mn, .int .i64 p.mx, .int .i64 p.tg, .int .i64 p.tl, .int .i64 p.wi, .int .i64 p.ho] 25)) [(w.heap.size, .cells #[.int .i64 p.mn, .int .i64 p.mx, .int .i64 p.tg, .int .i64 p.tl, .int .i64 p.wi, .int .i64 p.ho] 25)]) := (Mem.start w).alloc _
  have K0 := Lib.hid (M0.out.heap 0 rfl)
  clear P hp
  go_enter Try.func80, Try.ntmps80
  go_wp2_with (first | ((with_reducible refine wpList_load_rowAs rfl 25 _ rfl (w.heap.size) ?_ 25 #[.int .i64 p.mn, .int .i64 p.mx, .int .i64 p.tg, .int .i64 p.tl, .int .i64 p.wi, .int .i64 p.ho] (0, 0) _ 6 ?_ Try.underlying25 rfl (by kernel_rfl) ?_ ?_); exact rfl; exact K0.out; exact rfl) | fail)
  (with_reducible refine (P1.out _).mono ?_)
  rintro e w1 ⟨rfl, hb⟩
  have B1 := Lib.hid (M0.out.call hb).below
  clear hb
  go_wp2_with ((with_reducible refine (P2.out _).mono ?_); rintro e w1 ⟨rfl, rfl⟩)
  go_ret2
  exact ⟨rfl, B1.out⟩

theorem heap_setCells_row (w : World) (b : Nat) (cs : Array Value) (t : TypeId) : ∀ (vs : List Value) (o : Nat) (w : World) (cs : Array Value), w.heap[b]? = some (.cells cs t (0, 0)) → ∃ cs' : Array Value, (w.setCells b o vs).heap[b]? = some (.cells cs' t (0, 0)) := by
  intro vs
  induction vs with
  | nil => intro o w cs h; exact ⟨cs, h⟩
  | cons v r ih => intro o w cs h; exact ih (o + 1) _ _ (heap_setCell_same _ _ _ _ _ _ h)

set_option maxHeartbeats 1000000 in
set_option maxRecDepth 100000 in
theorem node_set {w : World} {B rs rh : Nat} {i : NI} {x : NS} {fz : Bool} (h : NodeAt w B i rs rh fz x) (hv : x.ver ≤ 100000) (hB : B ≤ w.heap.size) (p : Pol) (hp : p.ok = true) : Calls Try.prog 80 #[i.ptr, .agg #[.int .i64 p.mn, .int .i64 p.mx, .int .i64 p.tg, .int .i64 p.tl, .int .i64 p.wi, .int .i64 p.ho]] w fun e w' => ∃ j : NI, e = .returned (.tuple #[j.ptr, .int .i64 0]) ∧ NodeOf w B i fz rs rh false (x.set p) j w' := by
  have P := policy_check p
  rw [show p.err = 0 from if_pos hp] at P
  have P1 := Lib.hid P
  have P2 := Lib.hid (fun (W : World) (hW : NodeAt W B i rs rh fz x) => node_made hW)
  have P3 := Lib.hid (fun (W : World) (hW : NodeAt W B i rs rh fz x) (hBW : B ≤ W.heap.size) => node_next hW hv hBW)
  have M0 : Hid (Mem w (w.alloc (.cells #[.int .i64 p.mn, .int .i64 p.mx, .int .i64 p.tg, .int .i64 p.tl, .int .i64 p.wi, .int .i64 p.ho] 25)) [(w.heap.size, .cells #[.int .i64 p.mn, .int .i64 p.mx, .int .i64 p.tg, .int .i64 p.tl, .int .i64 p.wi, .int .i64 p.ho] 25)]) := (Mem.start w).alloc _
  have K0 := Lib.hid (M0.out.heap 0 rfl)
  have HH := Lib.hid h
  have HLT := Lib.hid h.lt
  show Calls Try.prog 80 #[.pointer (some ⟨i.nb, 0, none⟩), .agg #[.int .i64 p.mn, .int .i64 p.mx, .int .i64 p.tg, .int .i64 p.tl, .int .i64 p.wi, .int .i64 p.ho]] w _
  clear h P hp
  go_enter Try.func80, Try.ntmps80
  go_wp2_with (first | ((with_reducible refine wpList_load_rowAs rfl 25 _ rfl (w.heap.size) ?_ 25 #[.int .i64 p.mn, .int .i64 p.mx, .int .i64 p.tg, .int .i64 p.tl, .int .i64 p.wi, .int .i64 p.ho] (0, 0) _ 6 ?_ Try.underlying25 rfl (by kernel_rfl) ?_ ?_); exact rfl; exact K0.out; exact rfl) | fail)
  (with_reducible refine (P1.out _).mono ?_)
  rintro e w1 ⟨rfl, hb⟩
  have M1 := Lib.hid (M0.out.call hb)
  have H1 := Lib.hid (HH.out.below M1.out.below)
  have P4 := Lib.hid (P2.out w1 H1.out)
  have P5 := Lib.hid (P3.out w1 H1.out (Nat.le_trans hB M1.out.below.size))
  clear hb P1 P2 P3 K0
  go_wp2_with (first | ((with_reducible refine P4.out.mono ?_); rintro e w2 ⟨rfl, rfl⟩) | fail)
  (with_reducible refine P5.out.mono ?_)
  rintro e w2 ⟨j, rfl, hN, hF⟩
  have N2 := Lib.hid hN
  have F2 := Lib.hid hF
  have K2 := Lib.hid ((hN.turned.block w.heap.size (lt_of_heap (M1.out.heap 0 rfl)) (fun e => by have := (HLT.out _ e.2).2; omega)).trans (M1.out.heap 0 rfl))
  have g6 := hN.node.free 6
  have HTH : Hid (w2.there j.nb 0 (#[.int .i64 p.mn, .int .i64 p.mx, .int .i64 p.tg, .int .i64 p.tl, .int .i64 p.wi, .int .i64 p.ho] : Array Value).size) := fun k hk => by
    replace hk : k < 6 := hk
    have hr := hN.node.row
    refine ⟨?_, by rw [Nat.zero_add]; exact hN.node.free k⟩
    rw [Nat.zero_add, cell_of_row _ _ _ _ _ _ hr, Array.getElem?_eq_getElem (by unfold NS.row; simp; omega)]
    rfl
  clear hN hF P4 P5 g6
  obtain ⟨W3, hW3⟩ : ∃ W, W = w2.setCells j.nb 0 (#[.int .i64 p.mn, .int .i64 p.mx, .int .i64 p.tg, .int .i64 p.tl, .int .i64 p.wi, .int .i64 p.ho] : Array Value).toList := ⟨_, rfl⟩
  have hr3 : W3.heap[j.nb]? = some (.cells #[.int .i64 p.mn, .int .i64 p.mx, .int .i64 p.tg, .int .i64 p.tl, .int .i64 p.wi, .int .i64 p.ho, .bool x.ruled, .int .i64 x.up.ver, .bool false, .pointer (some ⟨j.s, 0, none⟩), .pointer (some ⟨j.h, 0, none⟩)] 142 (0, 0)) := by
    rw [hW3]
    have hr := N2.out.node.row
    simp only [World.setCells]
    have := heap_setCell_same _ _ 5 _ _ (.int .i64 p.ho) (heap_setCell_same _ _ 4 _ _ (.int .i64 p.wi) (heap_setCell_same _ _ 3 _ _ (.int .i64 p.tl) (heap_setCell_same _ _ 2 _ _ (.int .i64 p.tg) (heap_setCell_same _ _ 1 _ _ (.int .i64 p.mx) (heap_setCell_same _ _ 0 _ _ (.int .i64 p.mn) hr)))))
    exact this
  have ht3 : Turned (fun k => k = j.nb) w2 W3 := by rw [hW3]; exact turned_setCells _ _ _ _ _ rfl
  have c6 : W3.cell? ⟨j.nb, 6, none⟩ = some (.bool x.ruled) := by rw [cell_of_row _ _ _ _ _ _ hr3]; rfl
  have f6 : W3.frozen? ⟨j.nb, 6, none⟩ = false := frozen_of_row _ _ _ _ _ hr3
  have R3 := Lib.hid hr3
  have T3 := Lib.hid ht3
  have HW3 := Lib.hid hW3
  clear hr3 ht3 hW3
  go_wp2_with (first | ((with_reducible refine wpList_load_rowAs rfl 25 _ rfl (w.heap.size) ?_ 25 #[.int .i64 p.mn, .int .i64 p.mx, .int .i64 p.tg, .int .i64 p.tl, .int .i64 p.wi, .int .i64 p.ho] (0, 0) _ 6 ?_ Try.underlying25 rfl (by kernel_rfl) ?_ ?_); exact rfl; exact K2.out; exact rfl) | ((with_reducible refine wpList_store_mid rfl 25 _ _ rfl j.nb 0 #[.int .i64 p.mn, .int .i64 p.mx, .int .i64 p.tg, .int .i64 p.tl, .int .i64 p.wi, .int .i64 p.ho] ?_ ?_ HTH.out (by kernel_rfl) (by simp [Value.oneCell']) ?_); exact rfl; exact rfl; rw [← HW3.out]))
  go_ret2
  have ht4 : Turned (fun k => k = j.nb) w2 (W3.setCell ⟨j.nb, 6, none⟩ (.bool true)) := T3.out.setCell _ (fun _ => rfl)
  have hn4 := N2.out.node.own (y := x.set p) (fz2 := false) ht4 (by rw [heap_setCell_same _ _ _ _ _ _ R3.out]; rfl) rfl rfl
  have hof : NodeOf w2 B j false rs rh false (x.set p) j (W3.setCell ⟨j.nb, 6, none⟩ (.bool true)) := ⟨hn4, ht4.mono (fun k _ e => ⟨rfl, .inl e⟩), .inr rfl⟩
  have hR := N2.out.trans F2.out hof
  refine ⟨j, rfl, hR.node, (Turned.of_below M1.out.below).trans hR.turned (fun _ _ h => h), ?_⟩
  rcases hR.foot with g | g
  · exact .inl fun k hk => (g k hk).imp id (fun h => Nat.le_trans M1.out.below.size h)
  · exact .inr g
end Go.Proofs.Ytapgcbjlgekpeaa
