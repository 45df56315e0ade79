/- Layer 17: the law's do. -/
import Derived.Test.YtapgcbjlgekpeaaJRef17
namespace Go.Proofs.Ytapgcbjlgekpeaa
open Go.ChangeShapes Go.WideShapes Go.ChangeAt Go.RowKit

def DidOf (w : World) (B : Nat) (i : NI) (f : Bool) (rs rh : Nat) (fz : Bool) (y : NS) (c : Int) (g : Int) (e : Ending) (w' : World) : Prop :=
  ∃ j : NI, e = .returned (.tuple #[j.ptr, .int .i64 c, .int .i64 g]) ∧ NodeOf w B i f rs rh fz y j w'
theorem NodeOf.from {w w0 w' : World} {B rs rh : Nat} {i j : NI} {x : NS} {f fz : Bool} (h : NodeOf w0 B i f rs rh fz x j w') (hb : Below w.heap.size w w0) : NodeOf w B i f rs rh fz x j w' := by
  refine ⟨h.node, (Turned.of_below hb).trans h.turned (fun _ _ h => h), ?_⟩
  rcases h.foot with g | g
  · exact .inl fun k hk => (g k hk).imp id (fun h => Nat.le_trans hb.size h)
  · exact .inr g
set_option maxHeartbeats 1000000 in
set_option maxRecDepth 100000 in
theorem law17_do_0bad {w : World} {B rs rh : Nat} {i : NI} {x : NS} {fz : Bool} (h : NodeAt w B i rs rh fz x)  (s : Samp) (g : Pol) (a : Adv) (hc : Ser.code s ≠ 0) : Calls Try.prog 17 #[i.ptr, .agg #[.int .i64 0, .int .i64 s.tick, .int .i64 s.val, .int .i64 g.mn, .int .i64 g.mx, .int .i64 g.tg, .int .i64 g.tl, .int .i64 g.wi, .int .i64 g.ho, .int .i64 a.tick, .int .i64 a.load, .int .i64 a.want, .int .i64 a.repl, .int .i64 a.why]] w (DidOf w B i fz rs rh fz x (Ser.code s) 0) := by
  have B0 := Lib.hid (below1 w (.cells #[.int .i64 0, .int .i64 s.tick, .int .i64 s.val, .int .i64 g.mn, .int .i64 g.mx, .int .i64 g.tg, .int .i64 g.tl, .int .i64 g.wi, .int .i64 g.ho, .int .i64 a.tick, .int .i64 a.load, .int .i64 a.want, .int .i64 a.repl, .int .i64 a.why] 29))
  have K : Hid ((w.alloc (.cells #[.int .i64 0, .int .i64 s.tick, .int .i64 s.val, .int .i64 g.mn, .int .i64 g.mx, .int .i64 g.tg, .int .i64 g.tl, .int .i64 g.wi, .int .i64 g.ho, .int .i64 a.tick, .int .i64 a.load, .int .i64 a.want, .int .i64 a.repl, .int .i64 a.why] 29)).heap[w.heap.size]? = some (.cells #[.int .i64 0, .int .i64 s.tick, .int .i64 s.val, .int .i64 g.mn, .int .i64 g.mx, .int .i64 g.tg, .int .i64 g.tl, .int .i64 g.wi, .int .i64 g.ho, .int .i64 a.tick, .int .i64 a.load, .int .i64 a.want, .int .i64 a.repl, .int .i64 a.why] 29 (0, 0))) := heap_alloc_at _ _ _ rfl
  have H0 := Lib.hid (h.below B0.out)
  have P := Lib.hid (node_put_bad s hc (.pointer (some ⟨i.nb, 0, none⟩)) (w.alloc (.cells #[.int .i64 0, .int .i64 s.tick, .int .i64 s.val, .int .i64 g.mn, .int .i64 g.mx, .int .i64 g.tg, .int .i64 g.tl, .int .i64 g.wi, .int .i64 g.ho, .int .i64 a.tick, .int .i64 a.load, .int .i64 a.want, .int .i64 a.repl, .int .i64 a.why] 29)))
  show Calls Try.prog 17 #[.pointer (some ⟨i.nb, 0, none⟩), .agg #[.int .i64 0, .int .i64 s.tick, .int .i64 s.val, .int .i64 g.mn, .int .i64 g.mx, .int .i64 g.tg, .int .i64 g.tl, .int .i64 g.wi, .int .i64 g.ho, .int .i64 a.tick, .int .i64 a.load, .int .i64 a.want, .int .i64 a.repl, .int .i64 a.why]] w _
  clear h
  go_enter Try.func17, Try.ntmps17
  go_upto_region 1 with fail
  generalize (w.alloc (.cells #[.int .i64 0, .int .i64 s.tick, .int .i64 s.val, .int .i64 g.mn, .int .i64 g.mx, .int .i64 g.tg, .int .i64 g.tl, .int .i64 g.wi, .int .i64 g.ho, .int .i64 a.tick, .int .i64 a.load, .int .i64 a.want, .int .i64 a.repl, .int .i64 a.why] 29)) = W0 at *
  have cc_0 : W0.cell? ⟨w.heap.size, 0, none⟩ = some (.int .i64 0) := by rw [cell_of_row _ _ _ _ _ _ K.out]; rfl
  have cc_1 : W0.cell? ⟨w.heap.size, 1, none⟩ = some (.int .i64 s.tick) := by rw [cell_of_row _ _ _ _ _ _ K.out]; rfl
  have cc_2 : W0.cell? ⟨w.heap.size, 2, none⟩ = some (.int .i64 s.val) := by rw [cell_of_row _ _ _ _ _ _ K.out]; rfl
  go_wp2_with fail
  (with_reducible refine P.out.mono ?_)
  rintro e w1 ⟨rfl, rfl⟩
  clear cc_0 cc_1 cc_2 P
  go_wp2
  refine bodyPost_ret (results_tmp3 rfl _ _ _) rfl ?_
  exact ⟨i, rfl, (NodeOf.self H0.out (Below.refl _ _)).from B0.out⟩
set_option maxHeartbeats 1000000 in
set_option maxRecDepth 100000 in
theorem law17_do_0 {w : World} {B rs rh : Nat} {i : NI} {x : NS} {fz : Bool} (h : NodeAt w B i rs rh fz x) (hv : x.ver ≤ 100000) (hB : B ≤ w.heap.size) (s : Samp) (g : Pol) (a : Adv) (hc : Ser.code s = 0) : Calls Try.prog 17 #[i.ptr, .agg #[.int .i64 0, .int .i64 s.tick, .int .i64 s.val, .int .i64 g.mn, .int .i64 g.mx, .int .i64 g.tg, .int .i64 g.tl, .int .i64 g.wi, .int .i64 g.ho, .int .i64 a.tick, .int .i64 a.load, .int .i64 a.want, .int .i64 a.repl, .int .i64 a.why]] w (DidOf w B i fz rs rh false (x.put rs s) 0 0) := by
  have B0 := Lib.hid (below1 w (.cells #[.int .i64 0, .int .i64 s.tick, .int .i64 s.val, .int .i64 g.mn, .int .i64 g.mx, .int .i64 g.tg, .int .i64 g.tl, .int .i64 g.wi, .int .i64 g.ho, .int .i64 a.tick, .int .i64 a.load, .int .i64 a.want, .int .i64 a.repl, .int .i64 a.why] 29))
  have K : Hid ((w.alloc (.cells #[.int .i64 0, .int .i64 s.tick, .int .i64 s.val, .int .i64 g.mn, .int .i64 g.mx, .int .i64 g.tg, .int .i64 g.tl, .int .i64 g.wi, .int .i64 g.ho, .int .i64 a.tick, .int .i64 a.load, .int .i64 a.want, .int .i64 a.repl, .int .i64 a.why] 29)).heap[w.heap.size]? = some (.cells #[.int .i64 0, .int .i64 s.tick, .int .i64 s.val, .int .i64 g.mn, .int .i64 g.mx, .int .i64 g.tg, .int .i64 g.tl, .int .i64 g.wi, .int .i64 g.ho, .int .i64 a.tick, .int .i64 a.load, .int .i64 a.want, .int .i64 a.repl, .int .i64 a.why] 29 (0, 0))) := heap_alloc_at _ _ _ rfl
  have H0 := Lib.hid (h.below B0.out)
  have P := Lib.hid (node_put H0.out hv (Nat.le_trans hB B0.out.size) s hc)
  show Calls Try.prog 17 #[.pointer (some ⟨i.nb, 0, none⟩), .agg #[.int .i64 0, .int .i64 s.tick, .int .i64 s.val, .int .i64 g.mn, .int .i64 g.mx, .int .i64 g.tg, .int .i64 g.tl, .int .i64 g.wi, .int .i64 g.ho, .int .i64 a.tick, .int .i64 a.load, .int .i64 a.want, .int .i64 a.repl, .int .i64 a.why]] w _
  clear h hv hB
  go_enter Try.func17, Try.ntmps17
  go_upto_region 1 with fail
  generalize (w.alloc (.cells #[.int .i64 0, .int .i64 s.tick, .int .i64 s.val, .int .i64 g.mn, .int .i64 g.mx, .int .i64 g.tg, .int .i64 g.tl, .int .i64 g.wi, .int .i64 g.ho, .int .i64 a.tick, .int .i64 a.load, .int .i64 a.want, .int .i64 a.repl, .int .i64 a.why] 29)) = W0 at *
  have cc_0 : W0.cell? ⟨w.heap.size, 0, none⟩ = some (.int .i64 0) := by rw [cell_of_row _ _ _ _ _ _ K.out]; rfl
  have cc_1 : W0.cell? ⟨w.heap.size, 1, none⟩ = some (.int .i64 s.tick) := by rw [cell_of_row _ _ _ _ _ _ K.out]; rfl
  have cc_2 : W0.cell? ⟨w.heap.size, 2, none⟩ = some (.int .i64 s.val) := by rw [cell_of_row _ _ _ _ _ _ K.out]; rfl
  go_wp2_with fail
  (with_reducible refine P.out.mono ?_)
  rintro e w1 ⟨j, rfl, hN⟩
  have HN := Lib.hid hN
  clear hN
  clear cc_0 cc_1 cc_2 P
  go_wp2
  refine bodyPost_ret (results_tmp3 rfl _ _ _) rfl ?_
  exact ⟨j, rfl, HN.out.from B0.out⟩
set_option maxHeartbeats 1000000 in
set_option maxRecDepth 100000 in
theorem law17_do_1no {w : World} {B rs rh : Nat} {i : NI} {x : NS} {fz : Bool} (h : NodeAt w B i rs rh fz x)  (s : Samp) (g : Pol) (a : Adv) (hz : x.sa = [] ∨ s.tick ≤ Ser.tk x.sa 0) : Calls Try.prog 17 #[i.ptr, .agg #[.int .i64 1, .int .i64 s.tick, .int .i64 s.val, .int .i64 g.mn, .int .i64 g.mx, .int .i64 g.tg, .int .i64 g.tl, .int .i64 g.wi, .int .i64 g.ho, .int .i64 a.tick, .int .i64 a.load, .int .i64 a.want, .int .i64 a.repl, .int .i64 a.why]] w (DidOf w B i fz rs rh fz x 0 0) := by
  have B0 := Lib.hid (below1 w (.cells #[.int .i64 1, .int .i64 s.tick, .int .i64 s.val, .int .i64 g.mn, .int .i64 g.mx, .int .i64 g.tg, .int .i64 g.tl, .int .i64 g.wi, .int .i64 g.ho, .int .i64 a.tick, .int .i64 a.load, .int .i64 a.want, .int .i64 a.repl, .int .i64 a.why] 29))
  have K : Hid ((w.alloc (.cells #[.int .i64 1, .int .i64 s.tick, .int .i64 s.val, .int .i64 g.mn, .int .i64 g.mx, .int .i64 g.tg, .int .i64 g.tl, .int .i64 g.wi, .int .i64 g.ho, .int .i64 a.tick, .int .i64 a.load, .int .i64 a.want, .int .i64 a.repl, .int .i64 a.why] 29)).heap[w.heap.size]? = some (.cells #[.int .i64 1, .int .i64 s.tick, .int .i64 s.val, .int .i64 g.mn, .int .i64 g.mx, .int .i64 g.tg, .int .i64 g.tl, .int .i64 g.wi, .int .i64 g.ho, .int .i64 a.tick, .int .i64 a.load, .int .i64 a.want, .int .i64 a.repl, .int .i64 a.why] 29 (0, 0))) := heap_alloc_at _ _ _ rfl
  have H0 := Lib.hid (h.below B0.out)
  have P := Lib.hid (node_trim_no H0.out s.tick hz)
  show Calls Try.prog 17 #[.pointer (some ⟨i.nb, 0, none⟩), .agg #[.int .i64 1, .int .i64 s.tick, .int .i64 s.val, .int .i64 g.mn, .int .i64 g.mx, .int .i64 g.tg, .int .i64 g.tl, .int .i64 g.wi, .int .i64 g.ho, .int .i64 a.tick, .int .i64 a.load, .int .i64 a.want, .int .i64 a.repl, .int .i64 a.why]] w _
  clear h
  go_enter Try.func17, Try.ntmps17
  go_upto_region 1 with fail
  generalize (w.alloc (.cells #[.int .i64 1, .int .i64 s.tick, .int .i64 s.val, .int .i64 g.mn, .int .i64 g.mx, .int .i64 g.tg, .int .i64 g.tl, .int .i64 g.wi, .int .i64 g.ho, .int .i64 a.tick, .int .i64 a.load, .int .i64 a.want, .int .i64 a.repl, .int .i64 a.why] 29)) = W0 at *
  have cc_0 : W0.cell? ⟨w.heap.size, 0, none⟩ = some (.int .i64 1) := by rw [cell_of_row _ _ _ _ _ _ K.out]; rfl
  have cc_1 : W0.cell? ⟨w.heap.size, 1, none⟩ = some (.int .i64 s.tick) := by rw [cell_of_row _ _ _ _ _ _ K.out]; rfl
  have cc_2 : W0.cell? ⟨w.heap.size, 2, none⟩ = some (.int .i64 s.val) := by rw [cell_of_row _ _ _ _ _ _ K.out]; rfl
  go_wp2_with fail
  (with_reducible refine P.out.mono ?_)
  rintro e w1 ⟨rfl, hb⟩
  have HB := Lib.hid hb
  clear hb
  clear cc_0 cc_1 cc_2 P
  go_wp2
  refine bodyPost_ret (results_tmp3 rfl _ _ _) rfl ?_
  exact ⟨i, rfl, (NodeOf.self H0.out HB.out).from B0.out⟩
set_option maxHeartbeats 1000000 in
set_option maxRecDepth 100000 in
theorem law17_do_1 {w : World} {B rs rh : Nat} {i : NI} {x : NS} {fz : Bool} (h : NodeAt w B i rs rh fz x) (hv : x.ver ≤ 100000) (hB : B ≤ w.heap.size) (s : Samp) (g : Pol) (a : Adv) (h0 : x.sa ≠ []) (hz : ¬ s.tick ≤ Ser.tk x.sa 0) : Calls Try.prog 17 #[i.ptr, .agg #[.int .i64 1, .int .i64 s.tick, .int .i64 s.val, .int .i64 g.mn, .int .i64 g.mx, .int .i64 g.tg, .int .i64 g.tl, .int .i64 g.wi, .int .i64 g.ho, .int .i64 a.tick, .int .i64 a.load, .int .i64 a.want, .int .i64 a.repl, .int .i64 a.why]] w (DidOf w B i fz rs rh false (x.trim s.tick) 0 (Ser.place x.sa s.tick : Nat)) := by
  have B0 := Lib.hid (below1 w (.cells #[.int .i64 1, .int .i64 s.tick, .int .i64 s.val, .int .i64 g.mn, .int .i64 g.mx, .int .i64 g.tg, .int .i64 g.tl, .int .i64 g.wi, .int .i64 g.ho, .int .i64 a.tick, .int .i64 a.load, .int .i64 a.want, .int .i64 a.repl, .int .i64 a.why] 29))
  have K : Hid ((w.alloc (.cells #[.int .i64 1, .int .i64 s.tick, .int .i64 s.val, .int .i64 g.mn, .int .i64 g.mx, .int .i64 g.tg, .int .i64 g.tl, .int .i64 g.wi, .int .i64 g.ho, .int .i64 a.tick, .int .i64 a.load, .int .i64 a.want, .int .i64 a.repl, .int .i64 a.why] 29)).heap[w.heap.size]? = some (.cells #[.int .i64 1, .int .i64 s.tick, .int .i64 s.val, .int .i64 g.mn, .int .i64 g.mx, .int .i64 g.tg, .int .i64 g.tl, .int .i64 g.wi, .int .i64 g.ho, .int .i64 a.tick, .int .i64 a.load, .int .i64 a.want, .int .i64 a.repl, .int .i64 a.why] 29 (0, 0))) := heap_alloc_at _ _ _ rfl
  have H0 := Lib.hid (h.below B0.out)
  have P := Lib.hid (node_trim H0.out hv (Nat.le_trans hB B0.out.size) s.tick h0 hz)
  show Calls Try.prog 17 #[.pointer (some ⟨i.nb, 0, none⟩), .agg #[.int .i64 1, .int .i64 s.tick, .int .i64 s.val, .int .i64 g.mn, .int .i64 g.mx, .int .i64 g.tg, .int .i64 g.tl, .int .i64 g.wi, .int .i64 g.ho, .int .i64 a.tick, .int .i64 a.load, .int .i64 a.want, .int .i64 a.repl, .int .i64 a.why]] w _
  clear h hv hB
  go_enter Try.func17, Try.ntmps17
  go_upto_region 1 with fail
  generalize (w.alloc (.cells #[.int .i64 1, .int .i64 s.tick, .int .i64 s.val, .int .i64 g.mn, .int .i64 g.mx, .int .i64 g.tg, .int .i64 g.tl, .int .i64 g.wi, .int .i64 g.ho, .int .i64 a.tick, .int .i64 a.load, .int .i64 a.want, .int .i64 a.repl, .int .i64 a.why] 29)) = W0 at *
  have cc_0 : W0.cell? ⟨w.heap.size, 0, none⟩ = some (.int .i64 1) := by rw [cell_of_row _ _ _ _ _ _ K.out]; rfl
  have cc_1 : W0.cell? ⟨w.heap.size, 1, none⟩ = some (.int .i64 s.tick) := by rw [cell_of_row _ _ _ _ _ _ K.out]; rfl
  have cc_2 : W0.cell? ⟨w.heap.size, 2, none⟩ = some (.int .i64 s.val) := by rw [cell_of_row _ _ _ _ _ _ K.out]; rfl
  go_wp2_with fail
  (with_reducible refine P.out.mono ?_)
  rintro e w1 ⟨j, rfl, hN⟩
  have HN := Lib.hid hN
  clear hN
  clear cc_0 cc_1 cc_2 P
  go_wp2
  refine bodyPost_ret (results_tmp3 rfl _ _ _) rfl ?_
  exact ⟨j, rfl, HN.out.from B0.out⟩
set_option maxHeartbeats 1000000 in
set_option maxRecDepth 100000 in
theorem law17_do_2bad {w : World} {B rs rh : Nat} {i : NI} {x : NS} {fz : Bool} (h : NodeAt w B i rs rh fz x)  (s : Samp) (g : Pol) (a : Adv) (hc : g.ok = false) : Calls Try.prog 17 #[i.ptr, .agg #[.int .i64 2, .int .i64 s.tick, .int .i64 s.val, .int .i64 g.mn, .int .i64 g.mx, .int .i64 g.tg, .int .i64 g.tl, .int .i64 g.wi, .int .i64 g.ho, .int .i64 a.tick, .int .i64 a.load, .int .i64 a.want, .int .i64 a.repl, .int .i64 a.why]] w (DidOf w B i fz rs rh fz x 7 0) := by
  have B0 := Lib.hid (below1 w (.cells #[.int .i64 2, .int .i64 s.tick, .int .i64 s.val, .int .i64 g.mn, .int .i64 g.mx, .int .i64 g.tg, .int .i64 g.tl, .int .i64 g.wi, .int .i64 g.ho, .int .i64 a.tick, .int .i64 a.load, .int .i64 a.want, .int .i64 a.repl, .int .i64 a.why] 29))
  have K : Hid ((w.alloc (.cells #[.int .i64 2, .int .i64 s.tick, .int .i64 s.val, .int .i64 g.mn, .int .i64 g.mx, .int .i64 g.tg, .int .i64 g.tl, .int .i64 g.wi, .int .i64 g.ho, .int .i64 a.tick, .int .i64 a.load, .int .i64 a.want, .int .i64 a.repl, .int .i64 a.why] 29)).heap[w.heap.size]? = some (.cells #[.int .i64 2, .int .i64 s.tick, .int .i64 s.val, .int .i64 g.mn, .int .i64 g.mx, .int .i64 g.tg, .int .i64 g.tl, .int .i64 g.wi, .int .i64 g.ho, .int .i64 a.tick, .int .i64 a.load, .int .i64 a.want, .int .i64 a.repl, .int .i64 a.why] 29 (0, 0))) := heap_alloc_at _ _ _ rfl
  have H0 := Lib.hid (h.below B0.out)
  have P := Lib.hid (node_set_bad g hc (.pointer (some ⟨i.nb, 0, none⟩)) (w.alloc (.cells #[.int .i64 2, .int .i64 s.tick, .int .i64 s.val, .int .i64 g.mn, .int .i64 g.mx, .int .i64 g.tg, .int .i64 g.tl, .int .i64 g.wi, .int .i64 g.ho, .int .i64 a.tick, .int .i64 a.load, .int .i64 a.want, .int .i64 a.repl, .int .i64 a.why] 29)))
  show Calls Try.prog 17 #[.pointer (some ⟨i.nb, 0, none⟩), .agg #[.int .i64 2, .int .i64 s.tick, .int .i64 s.val, .int .i64 g.mn, .int .i64 g.mx, .int .i64 g.tg, .int .i64 g.tl, .int .i64 g.wi, .int .i64 g.ho, .int .i64 a.tick, .int .i64 a.load, .int .i64 a.want, .int .i64 a.repl, .int .i64 a.why]] w _
  clear h
  go_enter Try.func17, Try.ntmps17
  go_upto_region 1 with fail
  generalize (w.alloc (.cells #[.int .i64 2, .int .i64 s.tick, .int .i64 s.val, .int .i64 g.mn, .int .i64 g.mx, .int .i64 g.tg, .int .i64 g.tl, .int .i64 g.wi, .int .i64 g.ho, .int .i64 a.tick, .int .i64 a.load, .int .i64 a.want, .int .i64 a.repl, .int .i64 a.why] 29)) = W0 at *
  have cc_0 : W0.cell? ⟨w.heap.size, 0, none⟩ = some (.int .i64 2) := by rw [cell_of_row _ _ _ _ _ _ K.out]; rfl
  have cc_3 : W0.cell? ⟨w.heap.size, 3, none⟩ = some (.int .i64 g.mn) := by rw [cell_of_row _ _ _ _ _ _ K.out]; rfl
  have cc_4 : W0.cell? ⟨w.heap.size, 4, none⟩ = some (.int .i64 g.mx) := by rw [cell_of_row _ _ _ _ _ _ K.out]; rfl
  have cc_5 : W0.cell? ⟨w.heap.size, 5, none⟩ = some (.int .i64 g.tg) := by rw [cell_of_row _ _ _ _ _ _ K.out]; rfl
  have cc_6 : W0.cell? ⟨w.heap.size, 6, none⟩ = some (.int .i64 g.tl) := by rw [cell_of_row _ _ _ _ _ _ K.out]; rfl
  have cc_7 : W0.cell? ⟨w.heap.size, 7, none⟩ = some (.int .i64 g.wi) := by rw [cell_of_row _ _ _ _ _ _ K.out]; rfl
  have cc_8 : W0.cell? ⟨w.heap.size, 8, none⟩ = some (.int .i64 g.ho) := by rw [cell_of_row _ _ _ _ _ _ K.out]; rfl
  go_wp2_with fail
  (with_reducible refine P.out.mono ?_)
  rintro e w1 ⟨rfl, hb⟩
  have HB := Lib.hid hb
  clear hb
  clear cc_0 cc_3 cc_4 cc_5 cc_6 cc_7 cc_8 P
  go_wp2
  refine bodyPost_ret (results_tmp3 rfl _ _ _) rfl ?_
  exact ⟨i, rfl, (NodeOf.self H0.out HB.out).from B0.out⟩
set_option maxHeartbeats 1000000 in
set_option maxRecDepth 100000 in
theorem law17_do_2 {w : World} {B rs rh : Nat} {i : NI} {x : NS} {fz : Bool} (h : NodeAt w B i rs rh fz x) (hv : x.ver ≤ 100000) (hB : B ≤ w.heap.size) (s : Samp) (g : Pol) (a : Adv) (hc : g.ok = true) : Calls Try.prog 17 #[i.ptr, .agg #[.int .i64 2, .int .i64 s.tick, .int .i64 s.val, .int .i64 g.mn, .int .i64 g.mx, .int .i64 g.tg, .int .i64 g.tl, .int .i64 g.wi, .int .i64 g.ho, .int .i64 a.tick, .int .i64 a.load, .int .i64 a.want, .int .i64 a.repl, .int .i64 a.why]] w (DidOf w B i fz rs rh false (x.set g) 0 0) := by
  have B0 := Lib.hid (below1 w (.cells #[.int .i64 2, .int .i64 s.tick, .int .i64 s.val, .int .i64 g.mn, .int .i64 g.mx, .int .i64 g.tg, .int .i64 g.tl, .int .i64 g.wi, .int .i64 g.ho, .int .i64 a.tick, .int .i64 a.load, .int .i64 a.want, .int .i64 a.repl, .int .i64 a.why] 29))
  have K : Hid ((w.alloc (.cells #[.int .i64 2, .int .i64 s.tick, .int .i64 s.val, .int .i64 g.mn, .int .i64 g.mx, .int .i64 g.tg, .int .i64 g.tl, .int .i64 g.wi, .int .i64 g.ho, .int .i64 a.tick, .int .i64 a.load, .int .i64 a.want, .int .i64 a.repl, .int .i64 a.why] 29)).heap[w.heap.size]? = some (.cells #[.int .i64 2, .int .i64 s.tick, .int .i64 s.val, .int .i64 g.mn, .int .i64 g.mx, .int .i64 g.tg, .int .i64 g.tl, .int .i64 g.wi, .int .i64 g.ho, .int .i64 a.tick, .int .i64 a.load, .int .i64 a.want, .int .i64 a.repl, .int .i64 a.why] 29 (0, 0))) := heap_alloc_at _ _ _ rfl
  have H0 := Lib.hid (h.below B0.out)
  have P := Lib.hid (node_set H0.out hv (Nat.le_trans hB B0.out.size) g hc)
  show Calls Try.prog 17 #[.pointer (some ⟨i.nb, 0, none⟩), .agg #[.int .i64 2, .int .i64 s.tick, .int .i64 s.val, .int .i64 g.mn, .int .i64 g.mx, .int .i64 g.tg, .int .i64 g.tl, .int .i64 g.wi, .int .i64 g.ho, .int .i64 a.tick, .int .i64 a.load, .int .i64 a.want, .int .i64 a.repl, .int .i64 a.why]] w _
  clear h hv hB
  go_enter Try.func17, Try.ntmps17
  go_upto_region 1 with fail
  generalize (w.alloc (.cells #[.int .i64 2, .int .i64 s.tick, .int .i64 s.val, .int .i64 g.mn, .int .i64 g.mx, .int .i64 g.tg, .int .i64 g.tl, .int .i64 g.wi, .int .i64 g.ho, .int .i64 a.tick, .int .i64 a.load, .int .i64 a.want, .int .i64 a.repl, .int .i64 a.why] 29)) = W0 at *
  have cc_0 : W0.cell? ⟨w.heap.size, 0, none⟩ = some (.int .i64 2) := by rw [cell_of_row _ _ _ _ _ _ K.out]; rfl
  have cc_3 : W0.cell? ⟨w.heap.size, 3, none⟩ = some (.int .i64 g.mn) := by rw [cell_of_row _ _ _ _ _ _ K.out]; rfl
  have cc_4 : W0.cell? ⟨w.heap.size, 4, none⟩ = some (.int .i64 g.mx) := by rw [cell_of_row _ _ _ _ _ _ K.out]; rfl
  have cc_5 : W0.cell? ⟨w.heap.size, 5, none⟩ = some (.int .i64 g.tg) := by rw [cell_of_row _ _ _ _ _ _ K.out]; rfl
  have cc_6 : W0.cell? ⟨w.heap.size, 6, none⟩ = some (.int .i64 g.tl) := by rw [cell_of_row _ _ _ _ _ _ K.out]; rfl
  have cc_7 : W0.cell? ⟨w.heap.size, 7, none⟩ = some (.int .i64 g.wi) := by rw [cell_of_row _ _ _ _ _ _ K.out]; rfl
  have cc_8 : W0.cell? ⟨w.heap.size, 8, none⟩ = some (.int .i64 g.ho) := by rw [cell_of_row _ _ _ _ _ _ K.out]; rfl
  go_wp2_with fail
  (with_reducible refine P.out.mono ?_)
  rintro e w1 ⟨j, rfl, hN⟩
  have HN := Lib.hid hN
  clear hN
  clear cc_0 cc_3 cc_4 cc_5 cc_6 cc_7 cc_8 P
  go_wp2
  refine bodyPost_ret (results_tmp3 rfl _ _ _) rfl ?_
  exact ⟨j, rfl, HN.out.from B0.out⟩
set_option maxHeartbeats 1000000 in
set_option maxRecDepth 100000 in
theorem law17_do_3 {w : World} {B rs rh : Nat} {i : NI} {x : NS} {fz : Bool} (h : NodeAt w B i rs rh fz x) (hv : x.ver ≤ 100000) (hB : B ≤ w.heap.size) (s : Samp) (g : Pol) (a : Adv)  : Calls Try.prog 17 #[i.ptr, .agg #[.int .i64 3, .int .i64 s.tick, .int .i64 s.val, .int .i64 g.mn, .int .i64 g.mx, .int .i64 g.tg, .int .i64 g.tl, .int .i64 g.wi, .int .i64 g.ho, .int .i64 a.tick, .int .i64 a.load, .int .i64 a.want, .int .i64 a.repl, .int .i64 a.why]] w (DidOf w B i fz rs rh false (x.note rh a) 0 0) := by
  have B0 := Lib.hid (below1 w (.cells #[.int .i64 3, .int .i64 s.tick, .int .i64 s.val, .int .i64 g.mn, .int .i64 g.mx, .int .i64 g.tg, .int .i64 g.tl, .int .i64 g.wi, .int .i64 g.ho, .int .i64 a.tick, .int .i64 a.load, .int .i64 a.want, .int .i64 a.repl, .int .i64 a.why] 29))
  have K : Hid ((w.alloc (.cells #[.int .i64 3, .int .i64 s.tick, .int .i64 s.val, .int .i64 g.mn, .int .i64 g.mx, .int .i64 g.tg, .int .i64 g.tl, .int .i64 g.wi, .int .i64 g.ho, .int .i64 a.tick, .int .i64 a.load, .int .i64 a.want, .int .i64 a.repl, .int .i64 a.why] 29)).heap[w.heap.size]? = some (.cells #[.int .i64 3, .int .i64 s.tick, .int .i64 s.val, .int .i64 g.mn, .int .i64 g.mx, .int .i64 g.tg, .int .i64 g.tl, .int .i64 g.wi, .int .i64 g.ho, .int .i64 a.tick, .int .i64 a.load, .int .i64 a.want, .int .i64 a.repl, .int .i64 a.why] 29 (0, 0))) := heap_alloc_at _ _ _ rfl
  have H0 := Lib.hid (h.below B0.out)
  have P := Lib.hid (node_note H0.out hv (Nat.le_trans hB B0.out.size) a)
  show Calls Try.prog 17 #[.pointer (some ⟨i.nb, 0, none⟩), .agg #[.int .i64 3, .int .i64 s.tick, .int .i64 s.val, .int .i64 g.mn, .int .i64 g.mx, .int .i64 g.tg, .int .i64 g.tl, .int .i64 g.wi, .int .i64 g.ho, .int .i64 a.tick, .int .i64 a.load, .int .i64 a.want, .int .i64 a.repl, .int .i64 a.why]] w _
  clear h hv hB
  go_enter Try.func17, Try.ntmps17
  go_upto_region 1 with fail
  generalize (w.alloc (.cells #[.int .i64 3, .int .i64 s.tick, .int .i64 s.val, .int .i64 g.mn, .int .i64 g.mx, .int .i64 g.tg, .int .i64 g.tl, .int .i64 g.wi, .int .i64 g.ho, .int .i64 a.tick, .int .i64 a.load, .int .i64 a.want, .int .i64 a.repl, .int .i64 a.why] 29)) = W0 at *
  have cc_0 : W0.cell? ⟨w.heap.size, 0, none⟩ = some (.int .i64 3) := by rw [cell_of_row _ _ _ _ _ _ K.out]; rfl
  have cc_9 : W0.cell? ⟨w.heap.size, 9, none⟩ = some (.int .i64 a.tick) := by rw [cell_of_row _ _ _ _ _ _ K.out]; rfl
  have cc_10 : W0.cell? ⟨w.heap.size, 10, none⟩ = some (.int .i64 a.load) := by rw [cell_of_row _ _ _ _ _ _ K.out]; rfl
  have cc_11 : W0.cell? ⟨w.heap.size, 11, none⟩ = some (.int .i64 a.want) := by rw [cell_of_row _ _ _ _ _ _ K.out]; rfl
  have cc_12 : W0.cell? ⟨w.heap.size, 12, none⟩ = some (.int .i64 a.repl) := by rw [cell_of_row _ _ _ _ _ _ K.out]; rfl
  have cc_13 : W0.cell? ⟨w.heap.size, 13, none⟩ = some (.int .i64 a.why) := by rw [cell_of_row _ _ _ _ _ _ K.out]; rfl
  go_wp2_with fail
  (with_reducible refine P.out.mono ?_)
  rintro e w1 ⟨j, rfl, hN⟩
  have HN := Lib.hid hN
  clear hN
  clear cc_0 cc_9 cc_10 cc_11 cc_12 cc_13 P
  go_wp2
  refine bodyPost_ret (results_tmp3 rfl _ _ _) rfl ?_
  exact ⟨j, rfl, HN.out.from B0.out⟩
set_option maxHeartbeats 1000000 in
set_option maxRecDepth 100000 in
theorem law17_do_4 {w : World} {B rs rh : Nat} {i : NI} {x : NS} {fz : Bool} (h : NodeAt w B i rs rh fz x)  (s : Samp) (g : Pol) (a : Adv) (k : Int) (h0 : (k == 0) = false) (h1 : (k == 1) = false) (h2 : (k == 2) = false) (h3 : (k == 3) = false) : Calls Try.prog 17 #[i.ptr, .agg #[.int .i64 k, .int .i64 s.tick, .int .i64 s.val, .int .i64 g.mn, .int .i64 g.mx, .int .i64 g.tg, .int .i64 g.tl, .int .i64 g.wi, .int .i64 g.ho, .int .i64 a.tick, .int .i64 a.load, .int .i64 a.want, .int .i64 a.repl, .int .i64 a.why]] w (DidOf w B i fz rs rh true x 0 0) := by
  have B0 := Lib.hid (below1 w (.cells #[.int .i64 k, .int .i64 s.tick, .int .i64 s.val, .int .i64 g.mn, .int .i64 g.mx, .int .i64 g.tg, .int .i64 g.tl, .int .i64 g.wi, .int .i64 g.ho, .int .i64 a.tick, .int .i64 a.load, .int .i64 a.want, .int .i64 a.repl, .int .i64 a.why] 29))
  have K : Hid ((w.alloc (.cells #[.int .i64 k, .int .i64 s.tick, .int .i64 s.val, .int .i64 g.mn, .int .i64 g.mx, .int .i64 g.tg, .int .i64 g.tl, .int .i64 g.wi, .int .i64 g.ho, .int .i64 a.tick, .int .i64 a.load, .int .i64 a.want, .int .i64 a.repl, .int .i64 a.why] 29)).heap[w.heap.size]? = some (.cells #[.int .i64 k, .int .i64 s.tick, .int .i64 s.val, .int .i64 g.mn, .int .i64 g.mx, .int .i64 g.tg, .int .i64 g.tl, .int .i64 g.wi, .int .i64 g.ho, .int .i64 a.tick, .int .i64 a.load, .int .i64 a.want, .int .i64 a.repl, .int .i64 a.why] 29 (0, 0))) := heap_alloc_at _ _ _ rfl
  have H0 := Lib.hid (h.below B0.out)
  have P := Lib.hid (node_freeze H0.out)
  show Calls Try.prog 17 #[.pointer (some ⟨i.nb, 0, none⟩), .agg #[.int .i64 k, .int .i64 s.tick, .int .i64 s.val, .int .i64 g.mn, .int .i64 g.mx, .int .i64 g.tg, .int .i64 g.tl, .int .i64 g.wi, .int .i64 g.ho, .int .i64 a.tick, .int .i64 a.load, .int .i64 a.want, .int .i64 a.repl, .int .i64 a.why]] w _
  clear h
  go_enter Try.func17, Try.ntmps17
  go_upto_region 1 with fail
  generalize (w.alloc (.cells #[.int .i64 k, .int .i64 s.tick, .int .i64 s.val, .int .i64 g.mn, .int .i64 g.mx, .int .i64 g.tg, .int .i64 g.tl, .int .i64 g.wi, .int .i64 g.ho, .int .i64 a.tick, .int .i64 a.load, .int .i64 a.want, .int .i64 a.repl, .int .i64 a.why] 29)) = W0 at *
  have cc_0 : W0.cell? ⟨w.heap.size, 0, none⟩ = some (.int .i64 k) := by rw [cell_of_row _ _ _ _ _ _ K.out]; rfl
  go_wp2_with fail
  (with_reducible refine P.out.mono ?_)
  rintro e w1 ⟨rfl, hN⟩
  have HN := Lib.hid hN
  clear hN
  clear cc_0 P
  go_wp2
  refine bodyPost_ret (results_tmp3 rfl _ _ _) rfl ?_
  exact ⟨i, rfl, HN.out.from B0.out⟩
set_option maxHeartbeats 1000000 in
set_option maxRecDepth 100000 in
theorem law17_nil_0bad {w : World} (s : Samp) (g : Pol) (a : Adv) (hc : Ser.code s ≠ 0) : Calls Try.prog 17 #[.pointer none, .agg #[.int .i64 0, .int .i64 s.tick, .int .i64 s.val, .int .i64 g.mn, .int .i64 g.mx, .int .i64 g.tg, .int .i64 g.tl, .int .i64 g.wi, .int .i64 g.ho, .int .i64 a.tick, .int .i64 a.load, .int .i64 a.want, .int .i64 a.repl, .int .i64 a.why]] w fun e w' => e = .returned (.tuple #[.pointer none, .int .i64 (Ser.code s), .int .i64 0]) ∧ Below w.heap.size w w' := by
  have B0 := Lib.hid (below1 w (.cells #[.int .i64 0, .int .i64 s.tick, .int .i64 s.val, .int .i64 g.mn, .int .i64 g.mx, .int .i64 g.tg, .int .i64 g.tl, .int .i64 g.wi, .int .i64 g.ho, .int .i64 a.tick, .int .i64 a.load, .int .i64 a.want, .int .i64 a.repl, .int .i64 a.why] 29))
  have K : Hid ((w.alloc (.cells #[.int .i64 0, .int .i64 s.tick, .int .i64 s.val, .int .i64 g.mn, .int .i64 g.mx, .int .i64 g.tg, .int .i64 g.tl, .int .i64 g.wi, .int .i64 g.ho, .int .i64 a.tick, .int .i64 a.load, .int .i64 a.want, .int .i64 a.repl, .int .i64 a.why] 29)).heap[w.heap.size]? = some (.cells #[.int .i64 0, .int .i64 s.tick, .int .i64 s.val, .int .i64 g.mn, .int .i64 g.mx, .int .i64 g.tg, .int .i64 g.tl, .int .i64 g.wi, .int .i64 g.ho, .int .i64 a.tick, .int .i64 a.load, .int .i64 a.want, .int .i64 a.repl, .int .i64 a.why] 29 (0, 0))) := heap_alloc_at _ _ _ rfl
  have P := Lib.hid (node_put_bad s hc (.pointer none))
  go_enter Try.func17, Try.ntmps17
  go_upto_region 1 with fail
  generalize (w.alloc (.cells #[.int .i64 0, .int .i64 s.tick, .int .i64 s.val, .int .i64 g.mn, .int .i64 g.mx, .int .i64 g.tg, .int .i64 g.tl, .int .i64 g.wi, .int .i64 g.ho, .int .i64 a.tick, .int .i64 a.load, .int .i64 a.want, .int .i64 a.repl, .int .i64 a.why] 29)) = W0 at *
  have cc_0 : W0.cell? ⟨w.heap.size, 0, none⟩ = some (.int .i64 0) := by rw [cell_of_row _ _ _ _ _ _ K.out]; rfl
  have cc_1 : W0.cell? ⟨w.heap.size, 1, none⟩ = some (.int .i64 s.tick) := by rw [cell_of_row _ _ _ _ _ _ K.out]; rfl
  have cc_2 : W0.cell? ⟨w.heap.size, 2, none⟩ = some (.int .i64 s.val) := by rw [cell_of_row _ _ _ _ _ _ K.out]; rfl
  go_wp2_with fail
  (with_reducible refine (P.out _).mono ?_)
  rintro e w1 ⟨rfl, rfl⟩
  clear cc_0 cc_1 cc_2 P
  go_wp2
  refine bodyPost_ret (results_tmp3 rfl _ _ _) rfl ?_
  exact ⟨rfl, B0.out⟩
set_option maxHeartbeats 1000000 in
set_option maxRecDepth 100000 in
theorem law17_nil_0 {w : World} (s : Samp) (g : Pol) (a : Adv) (hc : Ser.code s = 0) : Calls Try.prog 17 #[.pointer none, .agg #[.int .i64 0, .int .i64 s.tick, .int .i64 s.val, .int .i64 g.mn, .int .i64 g.mx, .int .i64 g.tg, .int .i64 g.tl, .int .i64 g.wi, .int .i64 g.ho, .int .i64 a.tick, .int .i64 a.load, .int .i64 a.want, .int .i64 a.repl, .int .i64 a.why]] w fun e w' => e = .returned (.tuple #[.pointer none, .int .i64 5, .int .i64 0]) ∧ Below w.heap.size w w' := by
  have B0 := Lib.hid (below1 w (.cells #[.int .i64 0, .int .i64 s.tick, .int .i64 s.val, .int .i64 g.mn, .int .i64 g.mx, .int .i64 g.tg, .int .i64 g.tl, .int .i64 g.wi, .int .i64 g.ho, .int .i64 a.tick, .int .i64 a.load, .int .i64 a.want, .int .i64 a.repl, .int .i64 a.why] 29))
  have K : Hid ((w.alloc (.cells #[.int .i64 0, .int .i64 s.tick, .int .i64 s.val, .int .i64 g.mn, .int .i64 g.mx, .int .i64 g.tg, .int .i64 g.tl, .int .i64 g.wi, .int .i64 g.ho, .int .i64 a.tick, .int .i64 a.load, .int .i64 a.want, .int .i64 a.repl, .int .i64 a.why] 29)).heap[w.heap.size]? = some (.cells #[.int .i64 0, .int .i64 s.tick, .int .i64 s.val, .int .i64 g.mn, .int .i64 g.mx, .int .i64 g.tg, .int .i64 g.tl, .int .i64 g.wi, .int .i64 g.ho, .int .i64 a.tick, .int .i64 a.load, .int .i64 a.want, .int .i64 a.repl, .int .i64 a.why] 29 (0, 0))) := heap_alloc_at _ _ _ rfl
  have P := Lib.hid (node_put_nil s hc)
  go_enter Try.func17, Try.ntmps17
  go_upto_region 1 with fail
  generalize (w.alloc (.cells #[.int .i64 0, .int .i64 s.tick, .int .i64 s.val, .int .i64 g.mn, .int .i64 g.mx, .int .i64 g.tg, .int .i64 g.tl, .int .i64 g.wi, .int .i64 g.ho, .int .i64 a.tick, .int .i64 a.load, .int .i64 a.want, .int .i64 a.repl, .int .i64 a.why] 29)) = W0 at *
  have cc_0 : W0.cell? ⟨w.heap.size, 0, none⟩ = some (.int .i64 0) := by rw [cell_of_row _ _ _ _ _ _ K.out]; rfl
  have cc_1 : W0.cell? ⟨w.heap.size, 1, none⟩ = some (.int .i64 s.tick) := by rw [cell_of_row _ _ _ _ _ _ K.out]; rfl
  have cc_2 : W0.cell? ⟨w.heap.size, 2, none⟩ = some (.int .i64 s.val) := by rw [cell_of_row _ _ _ _ _ _ K.out]; rfl
  go_wp2_with fail
  (with_reducible refine (P.out _).mono ?_)
  rintro e w1 ⟨rfl, rfl⟩
  clear cc_0 cc_1 cc_2 P
  go_wp2
  refine bodyPost_ret (results_tmp3 rfl _ _ _) rfl ?_
  exact ⟨rfl, B0.out⟩
set_option maxHeartbeats 1000000 in
set_option maxRecDepth 100000 in
theorem law17_nil_1 {w : World} (s : Samp) (g : Pol) (a : Adv)  : Calls Try.prog 17 #[.pointer none, .agg #[.int .i64 1, .int .i64 s.tick, .int .i64 s.val, .int .i64 g.mn, .int .i64 g.mx, .int .i64 g.tg, .int .i64 g.tl, .int .i64 g.wi, .int .i64 g.ho, .int .i64 a.tick, .int .i64 a.load, .int .i64 a.want, .int .i64 a.repl, .int .i64 a.why]] w fun e w' => e = .returned (.tuple #[.pointer none, .int .i64 0, .int .i64 0]) ∧ Below w.heap.size w w' := by
  have B0 := Lib.hid (below1 w (.cells #[.int .i64 1, .int .i64 s.tick, .int .i64 s.val, .int .i64 g.mn, .int .i64 g.mx, .int .i64 g.tg, .int .i64 g.tl, .int .i64 g.wi, .int .i64 g.ho, .int .i64 a.tick, .int .i64 a.load, .int .i64 a.want, .int .i64 a.repl, .int .i64 a.why] 29))
  have K : Hid ((w.alloc (.cells #[.int .i64 1, .int .i64 s.tick, .int .i64 s.val, .int .i64 g.mn, .int .i64 g.mx, .int .i64 g.tg, .int .i64 g.tl, .int .i64 g.wi, .int .i64 g.ho, .int .i64 a.tick, .int .i64 a.load, .int .i64 a.want, .int .i64 a.repl, .int .i64 a.why] 29)).heap[w.heap.size]? = some (.cells #[.int .i64 1, .int .i64 s.tick, .int .i64 s.val, .int .i64 g.mn, .int .i64 g.mx, .int .i64 g.tg, .int .i64 g.tl, .int .i64 g.wi, .int .i64 g.ho, .int .i64 a.tick, .int .i64 a.load, .int .i64 a.want, .int .i64 a.repl, .int .i64 a.why] 29 (0, 0))) := heap_alloc_at _ _ _ rfl
  have P := Lib.hid (node_trim_nil s.tick)
  go_enter Try.func17, Try.ntmps17
  go_upto_region 1 with fail
  generalize (w.alloc (.cells #[.int .i64 1, .int .i64 s.tick, .int .i64 s.val, .int .i64 g.mn, .int .i64 g.mx, .int .i64 g.tg, .int .i64 g.tl, .int .i64 g.wi, .int .i64 g.ho, .int .i64 a.tick, .int .i64 a.load, .int .i64 a.want, .int .i64 a.repl, .int .i64 a.why] 29)) = W0 at *
  have cc_0 : W0.cell? ⟨w.heap.size, 0, none⟩ = some (.int .i64 1) := by rw [cell_of_row _ _ _ _ _ _ K.out]; rfl
  have cc_1 : W0.cell? ⟨w.heap.size, 1, none⟩ = some (.int .i64 s.tick) := by rw [cell_of_row _ _ _ _ _ _ K.out]; rfl
  have cc_2 : W0.cell? ⟨w.heap.size, 2, none⟩ = some (.int .i64 s.val) := by rw [cell_of_row _ _ _ _ _ _ K.out]; rfl
  go_wp2_with fail
  (with_reducible refine (P.out _).mono ?_)
  rintro e w1 ⟨rfl, rfl⟩
  clear cc_0 cc_1 cc_2 P
  go_wp2
  refine bodyPost_ret (results_tmp3 rfl _ _ _) rfl ?_
  exact ⟨rfl, B0.out⟩
set_option maxHeartbeats 1000000 in
set_option maxRecDepth 100000 in
theorem law17_nil_2bad {w : World} (s : Samp) (g : Pol) (a : Adv) (hc : g.ok = false) : Calls Try.prog 17 #[.pointer none, .agg #[.int .i64 2, .int .i64 s.tick, .int .i64 s.val, .int .i64 g.mn, .int .i64 g.mx, .int .i64 g.tg, .int .i64 g.tl, .int .i64 g.wi, .int .i64 g.ho, .int .i64 a.tick, .int .i64 a.load, .int .i64 a.want, .int .i64 a.repl, .int .i64 a.why]] w fun e w' => e = .returned (.tuple #[.pointer none, .int .i64 7, .int .i64 0]) ∧ Below w.heap.size w w' := by
  have B0 := Lib.hid (below1 w (.cells #[.int .i64 2, .int .i64 s.tick, .int .i64 s.val, .int .i64 g.mn, .int .i64 g.mx, .int .i64 g.tg, .int .i64 g.tl, .int .i64 g.wi, .int .i64 g.ho, .int .i64 a.tick, .int .i64 a.load, .int .i64 a.want, .int .i64 a.repl, .int .i64 a.why] 29))
  have K : Hid ((w.alloc (.cells #[.int .i64 2, .int .i64 s.tick, .int .i64 s.val, .int .i64 g.mn, .int .i64 g.mx, .int .i64 g.tg, .int .i64 g.tl, .int .i64 g.wi, .int .i64 g.ho, .int .i64 a.tick, .int .i64 a.load, .int .i64 a.want, .int .i64 a.repl, .int .i64 a.why] 29)).heap[w.heap.size]? = some (.cells #[.int .i64 2, .int .i64 s.tick, .int .i64 s.val, .int .i64 g.mn, .int .i64 g.mx, .int .i64 g.tg, .int .i64 g.tl, .int .i64 g.wi, .int .i64 g.ho, .int .i64 a.tick, .int .i64 a.load, .int .i64 a.want, .int .i64 a.repl, .int .i64 a.why] 29 (0, 0))) := heap_alloc_at _ _ _ rfl
  have P := Lib.hid (node_set_bad g hc (.pointer none))
  go_enter Try.func17, Try.ntmps17
  go_upto_region 1 with fail
  generalize (w.alloc (.cells #[.int .i64 2, .int .i64 s.tick, .int .i64 s.val, .int .i64 g.mn, .int .i64 g.mx, .int .i64 g.tg, .int .i64 g.tl, .int .i64 g.wi, .int .i64 g.ho, .int .i64 a.tick, .int .i64 a.load, .int .i64 a.want, .int .i64 a.repl, .int .i64 a.why] 29)) = W0 at *
  have cc_0 : W0.cell? ⟨w.heap.size, 0, none⟩ = some (.int .i64 2) := by rw [cell_of_row _ _ _ _ _ _ K.out]; rfl
  have cc_3 : W0.cell? ⟨w.heap.size, 3, none⟩ = some (.int .i64 g.mn) := by rw [cell_of_row _ _ _ _ _ _ K.out]; rfl
  have cc_4 : W0.cell? ⟨w.heap.size, 4, none⟩ = some (.int .i64 g.mx) := by rw [cell_of_row _ _ _ _ _ _ K.out]; rfl
  have cc_5 : W0.cell? ⟨w.heap.size, 5, none⟩ = some (.int .i64 g.tg) := by rw [cell_of_row _ _ _ _ _ _ K.out]; rfl
  have cc_6 : W0.cell? ⟨w.heap.size, 6, none⟩ = some (.int .i64 g.tl) := by rw [cell_of_row _ _ _ _ _ _ K.out]; rfl
  have cc_7 : W0.cell? ⟨w.heap.size, 7, none⟩ = some (.int .i64 g.wi) := by rw [cell_of_row _ _ _ _ _ _ K.out]; rfl
  have cc_8 : W0.cell? ⟨w.heap.size, 8, none⟩ = some (.int .i64 g.ho) := by rw [cell_of_row _ _ _ _ _ _ K.out]; rfl
  go_wp2_with fail
  (with_reducible refine (P.out _).mono ?_)
  rintro e w1 ⟨rfl, hb⟩
  have HB := Lib.hid hb
  clear hb
  clear cc_0 cc_3 cc_4 cc_5 cc_6 cc_7 cc_8 P
  go_wp2
  refine bodyPost_ret (results_tmp3 rfl _ _ _) rfl ?_
  exact ⟨rfl, B0.out.trans (HB.out.mono B0.out.size)⟩
set_option maxHeartbeats 1000000 in
set_option maxRecDepth 100000 in
theorem law17_nil_2 {w : World} (s : Samp) (g : Pol) (a : Adv) (hc : g.ok = true) : Calls Try.prog 17 #[.pointer none, .agg #[.int .i64 2, .int .i64 s.tick, .int .i64 s.val, .int .i64 g.mn, .int .i64 g.mx, .int .i64 g.tg, .int .i64 g.tl, .int .i64 g.wi, .int .i64 g.ho, .int .i64 a.tick, .int .i64 a.load, .int .i64 a.want, .int .i64 a.repl, .int .i64 a.why]] w fun e w' => e = .returned (.tuple #[.pointer none, .int .i64 5, .int .i64 0]) ∧ Below w.heap.size w w' := by
  have B0 := Lib.hid (below1 w (.cells #[.int .i64 2, .int .i64 s.tick, .int .i64 s.val, .int .i64 g.mn, .int .i64 g.mx, .int .i64 g.tg, .int .i64 g.tl, .int .i64 g.wi, .int .i64 g.ho, .int .i64 a.tick, .int .i64 a.load, .int .i64 a.want, .int .i64 a.repl, .int .i64 a.why] 29))
  have K : Hid ((w.alloc (.cells #[.int .i64 2, .int .i64 s.tick, .int .i64 s.val, .int .i64 g.mn, .int .i64 g.mx, .int .i64 g.tg, .int .i64 g.tl, .int .i64 g.wi, .int .i64 g.ho, .int .i64 a.tick, .int .i64 a.load, .int .i64 a.want, .int .i64 a.repl, .int .i64 a.why] 29)).heap[w.heap.size]? = some (.cells #[.int .i64 2, .int .i64 s.tick, .int .i64 s.val, .int .i64 g.mn, .int .i64 g.mx, .int .i64 g.tg, .int .i64 g.tl, .int .i64 g.wi, .int .i64 g.ho, .int .i64 a.tick, .int .i64 a.load, .int .i64 a.want, .int .i64 a.repl, .int .i64 a.why] 29 (0, 0))) := heap_alloc_at _ _ _ rfl
  have P := Lib.hid (node_set_nil g hc)
  go_enter Try.func17, Try.ntmps17
  go_upto_region 1 with fail
  generalize (w.alloc (.cells #[.int .i64 2, .int .i64 s.tick, .int .i64 s.val, .int .i64 g.mn, .int .i64 g.mx, .int .i64 g.tg, .int .i64 g.tl, .int .i64 g.wi, .int .i64 g.ho, .int .i64 a.tick, .int .i64 a.load, .int .i64 a.want, .int .i64 a.repl, .int .i64 a.why] 29)) = W0 at *
  have cc_0 : W0.cell? ⟨w.heap.size, 0, none⟩ = some (.int .i64 2) := by rw [cell_of_row _ _ _ _ _ _ K.out]; rfl
  have cc_3 : W0.cell? ⟨w.heap.size, 3, none⟩ = some (.int .i64 g.mn) := by rw [cell_of_row _ _ _ _ _ _ K.out]; rfl
  have cc_4 : W0.cell? ⟨w.heap.size, 4, none⟩ = some (.int .i64 g.mx) := by rw [cell_of_row _ _ _ _ _ _ K.out]; rfl
  have cc_5 : W0.cell? ⟨w.heap.size, 5, none⟩ = some (.int .i64 g.tg) := by rw [cell_of_row _ _ _ _ _ _ K.out]; rfl
  have cc_6 : W0.cell? ⟨w.heap.size, 6, none⟩ = some (.int .i64 g.tl) := by rw [cell_of_row _ _ _ _ _ _ K.out]; rfl
  have cc_7 : W0.cell? ⟨w.heap.size, 7, none⟩ = some (.int .i64 g.wi) := by rw [cell_of_row _ _ _ _ _ _ K.out]; rfl
  have cc_8 : W0.cell? ⟨w.heap.size, 8, none⟩ = some (.int .i64 g.ho) := by rw [cell_of_row _ _ _ _ _ _ K.out]; rfl
  go_wp2_with fail
  (with_reducible refine (P.out _).mono ?_)
  rintro e w1 ⟨rfl, hb⟩
  have HB := Lib.hid hb
  clear hb
  clear cc_0 cc_3 cc_4 cc_5 cc_6 cc_7 cc_8 P
  go_wp2
  refine bodyPost_ret (results_tmp3 rfl _ _ _) rfl ?_
  exact ⟨rfl, B0.out.trans (HB.out.mono B0.out.size)⟩
set_option maxHeartbeats 1000000 in
set_option maxRecDepth 100000 in
theorem law17_nil_3 {w : World} (s : Samp) (g : Pol) (a : Adv)  : Calls Try.prog 17 #[.pointer none, .agg #[.int .i64 3, .int .i64 s.tick, .int .i64 s.val, .int .i64 g.mn, .int .i64 g.mx, .int .i64 g.tg, .int .i64 g.tl, .int .i64 g.wi, .int .i64 g.ho, .int .i64 a.tick, .int .i64 a.load, .int .i64 a.want, .int .i64 a.repl, .int .i64 a.why]] w fun e w' => e = .returned (.tuple #[.pointer none, .int .i64 0, .int .i64 0]) ∧ Below w.heap.size w w' := by
  have B0 := Lib.hid (below1 w (.cells #[.int .i64 3, .int .i64 s.tick, .int .i64 s.val, .int .i64 g.mn, .int .i64 g.mx, .int .i64 g.tg, .int .i64 g.tl, .int .i64 g.wi, .int .i64 g.ho, .int .i64 a.tick, .int .i64 a.load, .int .i64 a.want, .int .i64 a.repl, .int .i64 a.why] 29))
  have K : Hid ((w.alloc (.cells #[.int .i64 3, .int .i64 s.tick, .int .i64 s.val, .int .i64 g.mn, .int .i64 g.mx, .int .i64 g.tg, .int .i64 g.tl, .int .i64 g.wi, .int .i64 g.ho, .int .i64 a.tick, .int .i64 a.load, .int .i64 a.want, .int .i64 a.repl, .int .i64 a.why] 29)).heap[w.heap.size]? = some (.cells #[.int .i64 3, .int .i64 s.tick, .int .i64 s.val, .int .i64 g.mn, .int .i64 g.mx, .int .i64 g.tg, .int .i64 g.tl, .int .i64 g.wi, .int .i64 g.ho, .int .i64 a.tick, .int .i64 a.load, .int .i64 a.want, .int .i64 a.repl, .int .i64 a.why] 29 (0, 0))) := heap_alloc_at _ _ _ rfl
  have P := Lib.hid (node_note_nil a)
  go_enter Try.func17, Try.ntmps17
  go_upto_region 1 with fail
  generalize (w.alloc (.cells #[.int .i64 3, .int .i64 s.tick, .int .i64 s.val, .int .i64 g.mn, .int .i64 g.mx, .int .i64 g.tg, .int .i64 g.tl, .int .i64 g.wi, .int .i64 g.ho, .int .i64 a.tick, .int .i64 a.load, .int .i64 a.want, .int .i64 a.repl, .int .i64 a.why] 29)) = W0 at *
  have cc_0 : W0.cell? ⟨w.heap.size, 0, none⟩ = some (.int .i64 3) := by rw [cell_of_row _ _ _ _ _ _ K.out]; rfl
  have cc_9 : W0.cell? ⟨w.heap.size, 9, none⟩ = some (.int .i64 a.tick) := by rw [cell_of_row _ _ _ _ _ _ K.out]; rfl
  have cc_10 : W0.cell? ⟨w.heap.size, 10, none⟩ = some (.int .i64 a.load) := by rw [cell_of_row _ _ _ _ _ _ K.out]; rfl
  have cc_11 : W0.cell? ⟨w.heap.size, 11, none⟩ = some (.int .i64 a.want) := by rw [cell_of_row _ _ _ _ _ _ K.out]; rfl
  have cc_12 : W0.cell? ⟨w.heap.size, 12, none⟩ = some (.int .i64 a.repl) := by rw [cell_of_row _ _ _ _ _ _ K.out]; rfl
  have cc_13 : W0.cell? ⟨w.heap.size, 13, none⟩ = some (.int .i64 a.why) := by rw [cell_of_row _ _ _ _ _ _ K.out]; rfl
  go_wp2_with fail
  (with_reducible refine (P.out _).mono ?_)
  rintro e w1 ⟨rfl, hb⟩
  have HB := Lib.hid hb
  clear hb
  clear cc_0 cc_9 cc_10 cc_11 cc_12 cc_13 P
  go_wp2
  refine bodyPost_ret (results_tmp3 rfl _ _ _) rfl ?_
  exact ⟨rfl, B0.out.trans (HB.out.mono B0.out.size)⟩
set_option maxHeartbeats 1000000 in
set_option maxRecDepth 100000 in
theorem law17_nil_4 {w : World} (s : Samp) (g : Pol) (a : Adv) (k : Int) (h0 : (k == 0) = false) (h1 : (k == 1) = false) (h2 : (k == 2) = false) (h3 : (k == 3) = false) : Calls Try.prog 17 #[.pointer none, .agg #[.int .i64 k, .int .i64 s.tick, .int .i64 s.val, .int .i64 g.mn, .int .i64 g.mx, .int .i64 g.tg, .int .i64 g.tl, .int .i64 g.wi, .int .i64 g.ho, .int .i64 a.tick, .int .i64 a.load, .int .i64 a.want, .int .i64 a.repl, .int .i64 a.why]] w fun e w' => e = .returned (.tuple #[.pointer none, .int .i64 0, .int .i64 0]) ∧ Below w.heap.size w w' := by
  have B0 := Lib.hid (below1 w (.cells #[.int .i64 k, .int .i64 s.tick, .int .i64 s.val, .int .i64 g.mn, .int .i64 g.mx, .int .i64 g.tg, .int .i64 g.tl, .int .i64 g.wi, .int .i64 g.ho, .int .i64 a.tick, .int .i64 a.load, .int .i64 a.want, .int .i64 a.repl, .int .i64 a.why] 29))
  have K : Hid ((w.alloc (.cells #[.int .i64 k, .int .i64 s.tick, .int .i64 s.val, .int .i64 g.mn, .int .i64 g.mx, .int .i64 g.tg, .int .i64 g.tl, .int .i64 g.wi, .int .i64 g.ho, .int .i64 a.tick, .int .i64 a.load, .int .i64 a.want, .int .i64 a.repl, .int .i64 a.why] 29)).heap[w.heap.size]? = some (.cells #[.int .i64 k, .int .i64 s.tick, .int .i64 s.val, .int .i64 g.mn, .int .i64 g.mx, .int .i64 g.tg, .int .i64 g.tl, .int .i64 g.wi, .int .i64 g.ho, .int .i64 a.tick, .int .i64 a.load, .int .i64 a.want, .int .i64 a.repl, .int .i64 a.why] 29 (0, 0))) := heap_alloc_at _ _ _ rfl
  have P := Lib.hid (node_freeze_nil)
  go_enter Try.func17, Try.ntmps17
  go_upto_region 1 with fail
  generalize (w.alloc (.cells #[.int .i64 k, .int .i64 s.tick, .int .i64 s.val, .int .i64 g.mn, .int .i64 g.mx, .int .i64 g.tg, .int .i64 g.tl, .int .i64 g.wi, .int .i64 g.ho, .int .i64 a.tick, .int .i64 a.load, .int .i64 a.want, .int .i64 a.repl, .int .i64 a.why] 29)) = W0 at *
  have cc_0 : W0.cell? ⟨w.heap.size, 0, none⟩ = some (.int .i64 k) := by rw [cell_of_row _ _ _ _ _ _ K.out]; rfl
  go_wp2_with fail
  (with_reducible refine (P.out _).mono ?_)
  rintro e w1 ⟨rfl, rfl⟩
  clear cc_0 P
  go_wp2
  refine bodyPost_ret (results_tmp3 rfl _ _ _) rfl ?_
  exact ⟨rfl, B0.out⟩
end Go.Proofs.Ytapgcbjlgekpeaa
