/- Layer 17: a decision is noted; a nil node. -/
import Derived.Test.YtapgcbjlgekpeaaJNode4
namespace Go.Proofs.Ytapgcbjlgekpeaa
open Go.ChangeShapes Go.WideShapes Go.ChangeAt Go.RowKit

theorem node_trim_nil (c : Int) (w : World) : Calls Try.prog 79 #[.pointer none, .int .i64 c] w fun e w' => e = .returned (.tuple #[.pointer none, .int .i64 0]) ∧ w = w' := by
  have P := Lib.hid node_samples_nil
  go_enter Try.func79, Try.ntmps79
  go_wp2_with ((with_reducible refine (P.out _).mono ?_); rintro e w1 ⟨rfl, rfl⟩)
  go_ret2
  exact ⟨rfl, rfl⟩
theorem node_freeze_nil (w : World) : Calls Try.prog 24 #[.pointer none] w fun e w' => e = .returned (.pointer none) ∧ w = w' := by
  have P := Lib.hid node_made_nil
  go_enter Try.func24, Try.ntmps24
  go_wp2_with ((with_reducible refine (P.out _).mono ?_); rintro e w1 ⟨rfl, rfl⟩)
  go_ret
  exact ⟨rfl, rfl⟩
theorem node_note_nil (a : Adv) (w : World) : Calls Try.prog 81 #[.pointer none, .agg #[.int .i64 a.tick, .int .i64 a.load, .int .i64 a.want, .int .i64 a.repl, .int .i64 a.why]] w fun e w' => e = .returned (.pointer none) ∧ Below w.heap.size w w' := by
  have P := Lib.hid node_made_nil
  go_enter Try.func81, Try.ntmps81
  go_wp2_with ((with_reducible refine (P.out _).mono ?_); rintro e w1 ⟨rfl, rfl⟩)
  go_ret
  exact ⟨rfl, below1 _ _⟩
set_option maxRecDepth 100000 in
theorem node_policy_nil (w : World) : Calls Try.prog 87 #[.pointer none] w fun e w' => e = .returned (.tuple #[.agg #[.int .i64 0, .int .i64 0, .int .i64 0, .int .i64 0, .int .i64 0, .int .i64 0], .bool false]) ∧ Below w.heap.size w w' := by
  have K : Hid ((w.alloc (.cells #[.int .i64 0, .int .i64 0, .int .i64 0, .int .i64 0, .int .i64 0, .int .i64 0] 25)).heap[w.heap.size]? = some (.cells #[.int .i64 0, .int .i64 0, .int .i64 0, .int .i64 0, .int .i64 0, .int .i64 0] 25 (0, 0))) := heap_alloc_at _ _ _ rfl
  go_enter Try.func87, Try.ntmps87
  go_wp2_with (first | ((with_reducible refine wpList_store_rowAs rfl 25 _ _ rfl (w.heap.size) #[.int .i64 0, .int .i64 0, .int .i64 0, .int .i64 0, .int .i64 0, .int .i64 0] ?_ ?_ 25 #[.int .i64 0, .int .i64 0, .int .i64 0, .int .i64 0, .int .i64 0, .int .i64 0] 6 ?_ (by kernel_rfl) rfl rfl (by simp [Value.oneCell']) ?_); exact rfl; exact rfl; exact K.out; (first | rw [row_1_0] | rw [row_2_0] | rw [row_2_1] | rw [row_3_0] | rw [row_3_1] | rw [row_3_2] | rw [row_4_0] | rw [row_4_1] | rw [row_4_2] | rw [row_4_3] | rw [row_5_0] | rw [row_5_1] | rw [row_5_2] | rw [row_5_3] | rw [row_5_4] | rw [row_6_0] | rw [row_6_1] | rw [row_6_2] | rw [row_6_3] | rw [row_6_4] | rw [row_6_5] | simp only [setRow_alloc_past, setRow_alloc_at, World.size_alloc, Nat.add_assoc, Nat.reduceAdd, Nat.lt_add_right_iff_pos, Nat.add_lt_add_iff_left, Nat.reduceLT, Nat.zero_lt_succ, Nat.lt_add_one])) | fail)
  exact bodyPost_ret (results_row_tmp rfl _ _ w.heap.size 25 #[.int .i64 0, .int .i64 0, .int .i64 0, .int .i64 0, .int .i64 0, .int .i64 0] (0, 0) _ 6 _ rfl rfl K.out Try.underlying25 rfl polInfo rfl) rfl ⟨rfl, below1 _ _⟩

section
variable {w : World} {B rs rh : Nat} {i : NI} {x : NS} {fz : Bool}
set_option maxHeartbeats 1000000 in
set_option maxRecDepth 100000 in
theorem node_note (h : NodeAt w B i rs rh fz x) (hv : x.ver ≤ 100000) (hB : B ≤ w.heap.size) (a : Adv) : Calls Try.prog 81 #[i.ptr, .agg #[.int .i64 a.tick, .int .i64 a.load, .int .i64 a.want, .int .i64 a.repl, .int .i64 a.why]] w fun e w' => ∃ j : NI, e = .returned j.ptr ∧ NodeOf w B i fz rs rh false (x.note rh a) j w' := by
  have M0 : Hid (Mem w (w.alloc (.cells #[.int .i64 a.tick, .int .i64 a.load, .int .i64 a.want, .int .i64 a.repl, .int .i64 a.why] 27)) [(w.heap.size, .cells #[.int .i64 a.tick, .int .i64 a.load, .int .i64 a.want, .int .i64 a.repl, .int .i64 a.why] 27)]) := (Mem.start w).alloc _
  have H1 := Lib.hid (h.below M0.out.below)
  have P2 := Lib.hid (node_made H1.out)
  have P3 := Lib.hid (node_next H1.out hv (Nat.le_trans hB M0.out.below.size))
  have HLT := Lib.hid h.lt
  show Calls Try.prog 81 #[.pointer (some ⟨i.nb, 0, none⟩), .agg #[.int .i64 a.tick, .int .i64 a.load, .int .i64 a.want, .int .i64 a.repl, .int .i64 a.why]] w _
  clear h
  go_enter Try.func81, Try.ntmps81
  go_wp2_with (first | ((with_reducible refine P2.out.mono ?_); rintro e w1 ⟨rfl, rfl⟩) | fail)
  (with_reducible refine P3.out.mono ?_)
  rintro e w2 ⟨j, rfl, hN, hF⟩
  have N2 := Lib.hid hN
  have F2 := Lib.hid hF
  have hr := hN.turned.block w.heap.size (by simp) (fun e => by have := (HLT.out _ e.2).2; omega)
  have K2 := Lib.hid (hr.trans (M0.out.heap 0 rfl))
  clear hN hF hr P2 P3
  have hst := stab_and (stab_node (B := B) (i := j) (rs := rs) (rh := rh) (fz := false) (x := x.up)) (stab_and (stab_below (B := w2.heap.size) (w0 := w2) (Nat.le_refl _)) (stab_heap w.heap.size (.cells #[.int .i64 a.tick, .int .i64 a.load, .int .i64 a.want, .int .i64 a.repl, .int .i64 a.why] 27 (0, 0))))
  go_wp2_with fail
  refine wp_region_E mixed [5] hst ⟨N2.out.node.below (below_drew (Below.refl _ _)), below_drew (Below.refl _ _), K2.out⟩ ?_
  refine wpAnyE_take 0 rfl (by kernel_rfl) (by kernel_rfl) (by kernel_rfl) (fun _ _ _ h => h) hst (EffB.pure rfl (fun _ => rfl)) (.inr (EffB.pure rfl (fun _ => rfl))) ?_
  simp only [act_norm]
  refine wpAnyE_take 1 (v := .pointer (some ⟨j.nb, 0, none⟩)) rfl (by kernel_rfl) (by kernel_rfl) (by kernel_rfl) (fun _ _ _ h => h) hst (EffB.run rfl rfl (fun wd hS => ?_)) (.inr (EffB.run rfl rfl (fun wd hS => ?_))) ?_
  · (go_wp2; exact ⟨rfl, Below.refl _ _⟩)
  · (go_wp2; exact ⟨rfl, Below.refl _ _⟩)
  simp only [act_norm]
  refine wpAnyE_take 2 (v := .pointer (some ⟨j.nb, 10, none⟩)) rfl (by kernel_rfl) (by kernel_rfl) (by kernel_rfl) (fun _ _ _ h => h) hst (EffB.run rfl rfl (fun wd hS => ?_)) (.inr (EffB.run rfl rfl (fun wd hS => ?_))) ?_
  · (go_wp2; exact ⟨rfl, Below.refl _ _⟩)
  · (go_wp2; exact ⟨rfl, Below.refl _ _⟩)
  simp only [act_norm]
  refine wpAnyE_take 3 (v := .pointer (some ⟨j.h, 0, none⟩)) rfl (by kernel_rfl) (by kernel_rfl) (by kernel_rfl) (fun _ _ _ h => h) hst (EffB.run rfl rfl (fun wd hS => ?_)) (.inl (by kernel_rfl)) ?_
  · (have c10 := hS.1.cell 10 (c := .pointer (some ⟨j.h, 0, none⟩)) rfl; go_wp2; exact ⟨rfl, Below.refl _ _⟩)
  simp only [act_norm]
  refine wpAnyE_take 4 (v := .agg #[.int .i64 a.tick, .int .i64 a.load, .int .i64 a.want, .int .i64 a.repl, .int .i64 a.why]) rfl (by kernel_rfl) (by kernel_rfl) (by kernel_rfl) (fun _ _ _ h => h) hst (EffB.run rfl rfl (fun wd hS => ?_)) (.inl (by kernel_rfl)) ?_
  · exact wp_load_row 27 _ rfl (w.heap.size) rfl 27 #[.int .i64 a.tick, .int .i64 a.load, .int .i64 a.want, .int .i64 a.repl, .int .i64 a.why] (0, 0) _ (hS.2.2) Try.underlying27 rfl (by kernel_rfl) ⟨rfl, Below.refl _ _⟩
  simp only [act_norm]
  refine wpAnyE_one 5 rfl (by kernel_rfl) rfl (fun wd hS => ?_)
  go_wp2_with fail
  (with_reducible refine (hist_add hS.1.his (Nat.le_trans (Nat.le_trans (Nat.le_trans hB M0.out.below.size) N2.out.turned.size) hS.2.1.size) a).mono ?_)
  rintro e w3 ⟨rfl, v', hs, ht, hvv⟩
  have hR := (N2.out.call hS.2.1).trans F2.out (hS.1.hisTurn hs ht hvv)
  have R := Lib.hid hR
  clear hS hs ht hvv hR hst
  refine ⟨_, R.out, (stab_nodeOf : Stab (fun w' => NodeOf _ B i fz rs rh false _ { j with u := v' } w')), ?_⟩
  try simp only [act_norm]
  refine wpAnyE_done (by kernel_rfl) (fun wd hS => ?_) _
  have HS := Lib.hid hS
  clear hS
  go_wp2
  go_ret
  refine ⟨{ j with u := v' }, rfl, HS.out.node, (Turned.of_below M0.out.below).trans HS.out.turned (fun _ _ h => h), ?_⟩
  rcases HS.out.foot with g | g
  · exact .inl fun k hk => (g k hk).imp id (fun h => Nat.le_trans M0.out.below.size h)
  · exact .inr g
end
end Go.Proofs.Ytapgcbjlgekpeaa
