/- Layer 17: NodePlays, walked. -/
import Derived.Test.YtapgcbjlgekpeaaJPlay17
namespace Go.Proofs.Ytapgcbjlgekpeaa
open Go.ChangeShapes Go.WideShapes Go.ChangeAt Go.RowKit

theorem actSize (a : Nac) : (Try.prog.info? 29).map (·.size) = some (a.row).toList.length := by kernel_rfl
theorem wpList_load_midA {P : Program} {ops : Array Oper} {rest : List Oper} {op : Oper} {a : Act} {w : World} {Q : Exit → Act → World → Prop} (hgd : op.guard = none) (ty : TypeId) (x : Operand) (ho : op.op = .load ty x)
    (b o : Nat) (hx : a.eval x = .pointer (some ⟨b, o, none⟩)) (cs : Array Value) (d : TypeDesc) (hc : w.rangeAt b o cs.toList)
    (hu : P.underlying ty = some d) (hd : d.isRow = true) (hi : (P.info? ty).map (·.size) = some cs.toList.length)
    (h : wpList P ops Q rest (a.put op.dst (.agg cs)) w) : wpList P ops Q (op :: rest) a w :=
  wpList_load_mid hgd ty x ho b o hx cs.toList d hc hu hd hi (by simpa using h)
theorem stab_pl {w : World} {cr : Array Value} {X B rs rh : Nat} {j : NI} {fz : Bool} {y x : NS} {p q : Option Addr} {c d : Nat} : Stab (fun W => Pl w W cr X B rs rh j fz y x p c q d) := fun _ _ h hb => h.call hb

set_option maxHeartbeats 2000000 in
set_option maxRecDepth 100000 in
theorem nodePlays_no (c : Cfg) (hc : c.In) (hf : ¬ c.Fine) (ps : Option Addr) (N cps : Nat) (w : World) : Calls Try.prog 4 #[.agg #[.int .i64 c.st, .int .i64 c.sa, .int .i64 c.lo, .int .i64 c.hi], .slice ps N cps] w fun e w' => e = .returned (.bool true) ∧ Below w.heap.size w w' := by
  have A := Lib.hid awake17
  have NEW := Lib.hid (node_new_no c hc hf)
  have RT : Hid (∀ W : World, Calls Try.prog 23 #[.agg #[.int .i64 c.st, .int .i64 c.sa, .int .i64 c.lo, .int .i64 c.hi]] W fun e w' => e = .returned (.int .i64 1) ∧ Below W.heap.size W w') := fun W => (node_right c hc W).mono (by rintro e w' ⟨r, rfl, _, h, hb⟩; rw [h hf]; exact ⟨rfl, hb⟩)
  have RR := Lib.hid (ref17_right c hc false ⟨fun h => absurd h hf, fun _ => rfl⟩)
  have B0 := Lib.hid (below1 w (.cells #[.int .i64 c.st, .int .i64 c.sa, .int .i64 c.lo, .int .i64 c.hi] 34))
  have K0 : Hid ((w.alloc (.cells #[.int .i64 c.st, .int .i64 c.sa, .int .i64 c.lo, .int .i64 c.hi] 34)).heap[w.heap.size]? = some (.cells #[.int .i64 c.st, .int .i64 c.sa, .int .i64 c.lo, .int .i64 c.hi] 34 (0, 0))) := heap_alloc_at _ _ _ rfl
  clear hc hf
  go_enter Try.func4, Try.ntmps4
  go_upto_region 1 with fail
  generalize (w.alloc (.cells #[.int .i64 c.st, .int .i64 c.sa, .int .i64 c.lo, .int .i64 c.hi] 34)) = W0 at *
  go_wp2_with (first | ((with_reducible refine wpList_load_rowAs rfl 34 _ rfl (w.heap.size) ?_ 34 #[.int .i64 c.st, .int .i64 c.sa, .int .i64 c.lo, .int .i64 c.hi] (0, 0) _ 4 ?_ Try.underlying34 rfl (by kernel_rfl) ?_ ?_); exact rfl; exact K0.out; exact rfl) | ((with_reducible refine wpList_load_rowG ?_ 34 _ rfl (w.heap.size) ?_ 34 #[.int .i64 c.st, .int .i64 c.sa, .int .i64 c.lo, .int .i64 c.hi] (0, 0) _ 4 ?_ Try.underlying34 rfl (by kernel_rfl) ?_ ?_); kernel_rfl; exact rfl; exact K0.out; exact rfl) | fail)
  (with_reducible refine (A.out _).mono ?_)
  rintro e w1 ⟨rfl, hb⟩
  have B1 := Lib.hid (B0.out.trans (hb.mono B0.out.size))
  have K1 := Lib.hid ((hb.block _ (lt_of_heap K0.out)).trans K0.out)
  clear hb K0 B0
  go_wp2_with (first | ((with_reducible refine wpList_load_rowAs rfl 34 _ rfl (w.heap.size) ?_ 34 #[.int .i64 c.st, .int .i64 c.sa, .int .i64 c.lo, .int .i64 c.hi] (0, 0) _ 4 ?_ Try.underlying34 rfl (by kernel_rfl) ?_ ?_); exact rfl; exact K1.out; exact rfl) | ((with_reducible refine wpList_load_rowG ?_ 34 _ rfl (w.heap.size) ?_ 34 #[.int .i64 c.st, .int .i64 c.sa, .int .i64 c.lo, .int .i64 c.hi] (0, 0) _ 4 ?_ Try.underlying34 rfl (by kernel_rfl) ?_ ?_); kernel_rfl; exact rfl; exact K1.out; exact rfl) | fail)
  (with_reducible refine (NEW.out _).mono ?_)
  rintro e w2 ⟨rfl, hb⟩
  have B2 := Lib.hid (B1.out.trans (hb.mono B1.out.size))
  have K2 := Lib.hid ((hb.block _ (lt_of_heap K1.out)).trans K1.out)
  clear hb K1 B1
  go_wp2_with (first | ((with_reducible refine wpList_load_rowAs rfl 34 _ rfl (w.heap.size) ?_ 34 #[.int .i64 c.st, .int .i64 c.sa, .int .i64 c.lo, .int .i64 c.hi] (0, 0) _ 4 ?_ Try.underlying34 rfl (by kernel_rfl) ?_ ?_); exact rfl; exact K2.out; exact rfl) | ((with_reducible refine wpList_load_rowG ?_ 34 _ rfl (w.heap.size) ?_ 34 #[.int .i64 c.st, .int .i64 c.sa, .int .i64 c.lo, .int .i64 c.hi] (0, 0) _ 4 ?_ Try.underlying34 rfl (by kernel_rfl) ?_ ?_); kernel_rfl; exact rfl; exact K2.out; exact rfl) | fail)
  (with_reducible refine (RR.out _).mono ?_)
  rintro e w3 ⟨rfl, hb⟩
  have B3 := Lib.hid (B2.out.trans (hb.mono B2.out.size))
  have K3 := Lib.hid ((hb.block _ (lt_of_heap K2.out)).trans K2.out)
  clear hb K2 B2
  go_wp2_with (first | ((with_reducible refine wpList_load_rowAs rfl 34 _ rfl (w.heap.size) ?_ 34 #[.int .i64 c.st, .int .i64 c.sa, .int .i64 c.lo, .int .i64 c.hi] (0, 0) _ 4 ?_ Try.underlying34 rfl (by kernel_rfl) ?_ ?_); exact rfl; exact K3.out; exact rfl) | ((with_reducible refine wpList_load_rowG ?_ 34 _ rfl (w.heap.size) ?_ 34 #[.int .i64 c.st, .int .i64 c.sa, .int .i64 c.lo, .int .i64 c.hi] (0, 0) _ 4 ?_ Try.underlying34 rfl (by kernel_rfl) ?_ ?_); kernel_rfl; exact rfl; exact K3.out; exact rfl) | fail)
  (with_reducible refine (RT.out _).mono ?_)
  rintro e w4 ⟨rfl, hb⟩
  have B4 := Lib.hid (B3.out.trans (hb.mono B3.out.size))
  have K4 := Lib.hid ((hb.block _ (lt_of_heap K3.out)).trans K3.out)
  clear hb K3 B3
  go_wp2_with (first | ((with_reducible refine wpList_load_rowAs rfl 34 _ rfl (w.heap.size) ?_ 34 #[.int .i64 c.st, .int .i64 c.sa, .int .i64 c.lo, .int .i64 c.hi] (0, 0) _ 4 ?_ Try.underlying34 rfl (by kernel_rfl) ?_ ?_); exact rfl; exact K4.out; exact rfl) | ((with_reducible refine wpList_load_rowG ?_ 34 _ rfl (w.heap.size) ?_ 34 #[.int .i64 c.st, .int .i64 c.sa, .int .i64 c.lo, .int .i64 c.hi] (0, 0) _ 4 ?_ Try.underlying34 rfl (by kernel_rfl) ?_ ?_); kernel_rfl; exact rfl; exact K4.out; exact rfl) | fail)
  (with_reducible refine (RT.out _).mono ?_)
  rintro e w5 ⟨rfl, hb⟩
  have B5 := Lib.hid (B4.out.trans (hb.mono B4.out.size))
  have K5 := Lib.hid ((hb.block _ (lt_of_heap K4.out)).trans K4.out)
  clear hb K4 B4
  go_wp2
  go_ret
  exact ⟨rfl, B5.out⟩

set_option maxHeartbeats 4000000 in
set_option maxRecDepth 100000 in
theorem nodePlays_yes (st lo : Int) (rs rh : Nat) (hc : Cfg.In ⟨st, rs, lo, rh⟩) (hf : Cfg.Fine ⟨st, rs, lo, rh⟩) (ps : Option Addr) (N cps : Nat) (l : List Nac) (hl : l.length = N) (w : World) (hs : Nacs w ps l) (hN2 : N ≤ 9223372036854775807) : Calls Try.prog 4 #[.agg #[.int .i64 st, .int .i64 (rs : Nat), .int .i64 lo, .int .i64 (rh : Nat)], .slice ps N cps] w fun e w' => e = .returned (.bool true) ∧ Below w.heap.size w w' := by
  have A := Lib.hid awake17
  have NEW : Hid (∀ W : World, Calls Try.prog 16 #[.agg #[.int .i64 st, .int .i64 (rs : Nat), .int .i64 lo, .int .i64 (rh : Nat)]] W fun e w' => ∃ j : NI, e = .returned j.ptr ∧ NodeAt w' W.heap.size j rs rh false NS.zero ∧ Below W.heap.size W w') := fun W => node_new ⟨st, rs, lo, rh⟩ hc hf rs rh rfl rfl W
  have RT : Hid (∀ W : World, Calls Try.prog 23 #[.agg #[.int .i64 st, .int .i64 (rs : Nat), .int .i64 lo, .int .i64 (rh : Nat)]] W fun e w' => e = .returned (.int .i64 0) ∧ Below W.heap.size W w') := fun W => (node_right ⟨st, rs, lo, rh⟩ hc W).mono (by rintro e w' ⟨r, rfl, h, _, hb⟩; rw [h hf]; exact ⟨rfl, hb⟩)
  have RR : Hid (∀ W : World, Calls Try.prog 22 #[.agg #[.int .i64 st, .int .i64 (rs : Nat), .int .i64 lo, .int .i64 (rh : Nat)]] W fun e w' => e = .returned (.bool true) ∧ Below W.heap.size W w') := fun W => ref17_right ⟨st, rs, lo, rh⟩ hc true ⟨fun _ => rfl, fun h => absurd hf h⟩ W
  have H64 : Hid (rh ≤ 64) := by have := hf.hi.2; show rh ≤ 64; simp only at this; omega
  have B0 := Lib.hid (below1 w (.cells #[.int .i64 st, .int .i64 (rs : Nat), .int .i64 lo, .int .i64 (rh : Nat)] 34))
  have BZ0 : Hid (w.heap.size < (w.alloc (.cells #[.int .i64 st, .int .i64 (rs : Nat), .int .i64 lo, .int .i64 (rh : Nat)] 34)).heap.size) := by show _ < _; simp
  have K0 : Hid ((w.alloc (.cells #[.int .i64 st, .int .i64 (rs : Nat), .int .i64 lo, .int .i64 (rh : Nat)] 34)).heap[w.heap.size]? = some (.cells #[.int .i64 st, .int .i64 (rs : Nat), .int .i64 lo, .int .i64 (rh : Nat)] 34 (0, 0))) := heap_alloc_at _ _ _ rfl
  have HS := Lib.hid hs
  have HL := Lib.hid hl
  clear hc hf hs hl
  go_enter Try.func4, Try.ntmps4
  go_upto_region 1 with fail
  generalize (w.alloc (.cells #[.int .i64 st, .int .i64 (rs : Nat), .int .i64 lo, .int .i64 (rh : Nat)] 34)) = W0 at *
  go_wp2_with (first | ((with_reducible refine wpList_load_rowAs rfl 34 _ rfl (w.heap.size) ?_ 34 #[.int .i64 st, .int .i64 (rs : Nat), .int .i64 lo, .int .i64 (rh : Nat)] (0, 0) _ 4 ?_ Try.underlying34 rfl (by kernel_rfl) ?_ ?_); exact rfl; exact K0.out; exact rfl) | ((with_reducible refine wpList_load_rowG ?_ 34 _ rfl (w.heap.size) ?_ 34 #[.int .i64 st, .int .i64 (rs : Nat), .int .i64 lo, .int .i64 (rh : Nat)] (0, 0) _ 4 ?_ Try.underlying34 rfl (by kernel_rfl) ?_ ?_); kernel_rfl; exact rfl; exact K0.out; exact rfl) | fail)
  (with_reducible refine (A.out _).mono ?_)
  rintro e w1 ⟨rfl, hb⟩
  have B1 := Lib.hid (B0.out.trans (hb.mono B0.out.size))
  have K1 := Lib.hid ((hb.block _ (lt_of_heap K0.out)).trans K0.out)
  have BZ1 := Lib.hid (Nat.lt_of_lt_of_le BZ0.out hb.size)
  clear hb K0 B0
  go_wp2_with (first | ((with_reducible refine wpList_load_rowAs rfl 34 _ rfl (w.heap.size) ?_ 34 #[.int .i64 st, .int .i64 (rs : Nat), .int .i64 lo, .int .i64 (rh : Nat)] (0, 0) _ 4 ?_ Try.underlying34 rfl (by kernel_rfl) ?_ ?_); exact rfl; exact K1.out; exact rfl) | fail)
  (with_reducible refine (NEW.out _).mono ?_)
  rintro e w2 ⟨j0, rfl, hN, hb⟩
  obtain ⟨B, hB⟩ : ∃ B, B = w1.heap.size := ⟨_, rfl⟩
  rw [← hB] at hN
  have BZ2 : Hid (w.heap.size < B) := by show _ < _; rw [hB]; exact BZ1.out
  have N2 := Lib.hid hN
  have B2 := Lib.hid (B1.out.trans (hb.mono B1.out.size))
  have K2 := Lib.hid ((hb.block _ (lt_of_heap K1.out)).trans K1.out)
  clear hb hN hB K1 B1 BZ0 BZ1 NEW A
  go_wp2_with (first | ((with_reducible refine wpList_load_rowAs rfl 34 _ rfl (w.heap.size) ?_ 34 #[.int .i64 st, .int .i64 (rs : Nat), .int .i64 lo, .int .i64 (rh : Nat)] (0, 0) _ 4 ?_ Try.underlying34 rfl (by kernel_rfl) ?_ ?_); exact rfl; exact K2.out; exact rfl) | ((with_reducible refine wpList_load_rowG ?_ 34 _ rfl (w.heap.size) ?_ 34 #[.int .i64 st, .int .i64 (rs : Nat), .int .i64 lo, .int .i64 (rh : Nat)] (0, 0) _ 4 ?_ Try.underlying34 rfl (by kernel_rfl) ?_ ?_); kernel_rfl; exact rfl; exact K2.out; exact rfl) | fail)
  (with_reducible refine (RR.out _).mono ?_)
  rintro e w3 ⟨rfl, hb⟩
  have B3 := Lib.hid (B2.out.trans (hb.mono B2.out.size))
  have K3 := Lib.hid ((hb.block _ (lt_of_heap K2.out)).trans K2.out)
  have N3 := Lib.hid (N2.out.below hb)
  clear hb K2 B2
  go_wp2_with (first | ((with_reducible refine wpList_load_rowAs rfl 34 _ rfl (w.heap.size) ?_ 34 #[.int .i64 st, .int .i64 (rs : Nat), .int .i64 lo, .int .i64 (rh : Nat)] (0, 0) _ 4 ?_ Try.underlying34 rfl (by kernel_rfl) ?_ ?_); exact rfl; exact K3.out; exact rfl) | ((with_reducible refine wpList_load_rowG ?_ 34 _ rfl (w.heap.size) ?_ 34 #[.int .i64 st, .int .i64 (rs : Nat), .int .i64 lo, .int .i64 (rh : Nat)] (0, 0) _ 4 ?_ Try.underlying34 rfl (by kernel_rfl) ?_ ?_); kernel_rfl; exact rfl; exact K3.out; exact rfl) | fail)
  (with_reducible refine (RT.out _).mono ?_)
  rintro e w4 ⟨rfl, hb⟩
  have B4 := Lib.hid (B3.out.trans (hb.mono B3.out.size))
  have K4 := Lib.hid ((hb.block _ (lt_of_heap K3.out)).trans K3.out)
  have N4 := Lib.hid (N3.out.below hb)
  clear hb K3 B3
  clear N2 N3 RR RT
  by_cases h40 : 40 < N
  · have d40 : decide ((40 : Int) < (N : Int)) = true := decide_eq_true (by omega)
    go_wp2
    go_ret
    exact ⟨rfl, B4.out⟩
  have d40 : decide ((40 : Int) < (N : Int)) = false := decide_eq_false (by omega)
  go_upto_region 10 with fail
  have P0 := Lib.hid (Pl.start B4.out K4.out N4.out BZ2.out)
  generalize hW5 : w4.alloc (.cells zeroLoad 40) = w5 at *
  generalize hX : w4.heap.size = X at *
  clear hW5 hX B4 K4 N4 BZ2
  go_wp2
  go_loopw [5, 8, 52] (fun n f i wr => ∃ (k : Nat) (j : NI) (fz : Bool) (x : NS) (p q : Option Addr) (cx dx : Nat), k ≤ N ∧ n = j.ptr ∧ f = .bool fz ∧ i = .int .i64 k ∧ x.ver ≤ k ∧ Pl w wr #[.int .i64 st, .int .i64 (rs : Nat), .int .i64 lo, .int .i64 (rh : Nat)] X B rs rh j fz x x p cx q dx) (fun _ _ i _ => N - (intOf i).toNat)
  case atStart => exact ⟨0, j0, false, NS.zero, none, none, 0, 0, by omega, rfl, rfl, rfl, Nat.le_refl _, P0.out⟩
  case round =>
    clear P0
    obtain ⟨k, j, fz, x, p, q, cx, dx, hk, rfl, rfl, rfl, hv, hP⟩ := hrel
    by_cases hkN : k < N
    · obtain ⟨b, off, rfl, hb, hcell⟩ := HS.out.cells k (by rw [HL.out]; exact hkN)
      obtain ⟨a, ea⟩ : ∃ a, a = (l[k]?.getD default : Nac) := ⟨_, rfl⟩
      rw [← ea] at hcell
      have RA := Lib.hid (Nac.rangeAt hcell hb hP.below)
      have P0 := Lib.hid hP
      have HV : Hid (x.ver ≤ 100000) := by show x.ver ≤ 100000; omega
      have HVK := Lib.hid hv
      have Z0 : Hid ((wr.alloc (.cells #[.int .i64 0, .int .i64 0, .int .i64 0, .int .i64 0, .int .i64 0, .int .i64 0, .int .i64 0, .int .i64 0, .int .i64 0, .int .i64 0, .int .i64 0, .int .i64 0, .int .i64 0, .int .i64 0] 29)).heap[wr.heap.size]? = some (.cells #[.int .i64 0, .int .i64 0, .int .i64 0, .int .i64 0, .int .i64 0, .int .i64 0, .int .i64 0, .int .i64 0, .int .i64 0, .int .i64 0, .int .i64 0, .int .i64 0, .int .i64 0, .int .i64 0] 29 (0, 0))) := heap_alloc_at _ _ _ rfl
      clear hP hcell ea hb hv
      go_upto_region 14 with (first | ((with_reducible refine wpList_store_rowAs rfl 29 _ _ rfl (wr.heap.size) a.row ?_ ?_ 29 #[.int .i64 0, .int .i64 0, .int .i64 0, .int .i64 0, .int .i64 0, .int .i64 0, .int .i64 0, .int .i64 0, .int .i64 0, .int .i64 0, .int .i64 0, .int .i64 0, .int .i64 0, .int .i64 0] 14 ?_ (by kernel_rfl) rfl rfl (by simp [Value.oneCell']) ?_); exact rfl; exact rfl; exact Z0.out; (first | rw [row_1_0] | rw [row_2_0] | rw [row_2_1] | rw [row_3_0] | rw [row_3_1] | rw [row_3_2] | rw [row_4_0] | rw [row_4_1] | rw [row_4_2] | rw [row_4_3] | rw [row_5_0] | rw [row_5_1] | rw [row_5_2] | rw [row_5_3] | rw [row_5_4] | rw [row_6_0] | rw [row_6_1] | rw [row_6_2] | rw [row_6_3] | rw [row_6_4] | rw [row_6_5] | simp only [setRow_alloc_past, setRow_alloc_at, World.size_alloc, Nat.add_assoc, Nat.reduceAdd, Nat.lt_add_right_iff_pos, Nat.add_lt_add_iff_left, Nat.reduceLT, Nat.zero_lt_succ, Nat.lt_add_one])) | ((with_reducible refine wpList_load_midA rfl 29 _ rfl b (off + k * 14) ?_ a.row _ RA.out Try.underlying29 rfl (actSize a) ?_); exact rfl) | fail)
      have P1 := Lib.hid (P0.out.call (below1 wr (.cells a.row 29)))
      have KY1 : Hid ((wr.alloc (.cells a.row 29)).heap[wr.heap.size]? = some (.cells a.row 29 (0, 0))) := heap_alloc_at _ _ _ rfl
      have NY := Lib.hid P0.out.lt
      clear P0 RA Z0
      generalize hW1 : wr.alloc (.cells a.row 29) = W1 at *
      generalize hY : wr.heap.size = Y at *
      clear hW1 hY
      obtain ⟨y, ey⟩ : ∃ y, y = x.act rs rh a := ⟨_, rfl⟩
      obtain ⟨ff, eff⟩ : ∃ ff, ff = x.frz rs rh a fz := ⟨_, rfl⟩
      have hd := law17_do P1.out.node HV.out (Nat.le_trans P1.out.node.low (Nat.le_of_lt (lt_of_heap P1.out.node.row))) a
      rw [← ey, ← eff] at hd
      have D := Lib.hid hd
      have EY := Lib.hid ey
      have EF := Lib.hid eff
      have OK := Lib.hid (P1.out.node.ok H64.out)
      clear hd ey eff
      go_wp2_with (first | ((with_reducible refine wpList_load_rowAs rfl 29 _ rfl (Y) ?_ 29 a.row (0, 0) _ 14 ?_ Try.underlying29 rfl (by kernel_rfl) ?_ ?_); exact rfl; exact KY1.out; exact rfl) | fail)
      (with_reducible refine D.out.mono ?_)
      rintro e w2 ⟨j2, rfl, hN⟩
      have P2 := Lib.hid (P1.out.did hN)
      have KY2 := Lib.hid ((hN.turned.block Y (lt_of_heap KY1.out) (fun e => by have := NY.out Y (.inl e.2); omega)).trans KY1.out)
      have XY : Hid (X < Y) := NY.out X (.inr rfl)
      have hr := ref17_do P2.out.lt P2.out.lat OK.out HV.out st lo a
      rw [← EY.out] at hr
      have RD := Lib.hid hr
      clear hN hr P1 KY1 NY D
      go_wp2_with (first | ((with_reducible refine wpList_load_rowAs rfl 29 _ rfl (Y) ?_ 29 a.row (0, 0) _ 14 ?_ Try.underlying29 rfl (by kernel_rfl) ?_ ?_); exact rfl; exact KY2.out; exact rfl) | ((with_reducible refine wpList_load_rowAs rfl 40 _ rfl (X) ?_ 40 (x.val p cx q dx) (0, 0) _ 10 ?_ Try.underlying40 rfl (by kernel_rfl) ?_ ?_); exact rfl; exact P2.out.row; exact rfl) | ((with_reducible refine wpList_load_rowAs rfl 34 _ rfl (w.heap.size) ?_ 34 #[.int .i64 st, .int .i64 (rs : Nat), .int .i64 lo, .int .i64 (rh : Nat)] (0, 0) _ 4 ?_ Try.underlying34 rfl (by kernel_rfl) ?_ ?_); exact rfl; exact P2.out.cfg; exact rfl) | fail)
      (with_reducible refine RD.out.mono ?_)
      rintro e w3 ⟨p2, c2, q2, d2, t, rfl, ht, hlt, hb⟩
      have P3 := Lib.hid (P2.out.call hb)
      have KY3 := Lib.hid ((hb.block _ (lt_of_heap KY2.out)).trans KY2.out)
      have L3 := Lib.hid hlt
      have HT := Lib.hid ht
      clear hb hlt ht RD P2 KY2
      have Z3 : Hid ((w3.alloc (.cells zeroLoad 40)).heap[w3.heap.size]? = some (.cells zeroLoad 40 (0, 0))) := heap_alloc_at _ _ _ rfl
      go_upto_region 16 with (first | ((with_reducible refine wpList_store_rowAs rfl 40 _ _ rfl (w3.heap.size) (y.val p2 c2 q2 d2) ?_ ?_ 40 zeroLoad 10 ?_ (by kernel_rfl) rfl rfl (by simp [Value.oneCell']) ?_); exact rfl; exact rfl; exact Z3.out; (first | rw [row_1_0] | rw [row_2_0] | rw [row_2_1] | rw [row_3_0] | rw [row_3_1] | rw [row_3_2] | rw [row_4_0] | rw [row_4_1] | rw [row_4_2] | rw [row_4_3] | rw [row_5_0] | rw [row_5_1] | rw [row_5_2] | rw [row_5_3] | rw [row_5_4] | rw [row_6_0] | rw [row_6_1] | rw [row_6_2] | rw [row_6_3] | rw [row_6_4] | rw [row_6_5] | simp only [setRow_alloc_past, setRow_alloc_at, World.size_alloc, Nat.add_assoc, Nat.reduceAdd, Nat.lt_add_right_iff_pos, Nat.add_lt_add_iff_left, Nat.reduceLT, Nat.zero_lt_succ, Nat.lt_add_one])) | fail)
      have hbz := below1 w3 (.cells (y.val p2 c2 q2 d2) 40)
      have P4 := Lib.hid (P3.out.call hbz)
      have KY4 := Lib.hid ((hbz.block _ (lt_of_heap KY3.out)).trans KY3.out)
      have L4 := Lib.hid (L3.out.below hbz)
      have KZ4 : Hid ((w3.alloc (.cells (y.val p2 c2 q2 d2) 40)).heap[w3.heap.size]? = some (.cells (y.val p2 c2 q2 d2) 40 (0, 0))) := heap_alloc_at _ _ _ rfl
      clear hbz P3 KY3 L3 Z3
      generalize hW4 : w3.alloc (.cells (y.val p2 c2 q2 d2) 40) = W4 at *
      generalize hZ : w3.heap.size = Z at *
      clear hW4 hZ
      have kx9 : W4.cell? ⟨X, 9, none⟩ = some (.int .i64 (x.ver : Nat)) := by rw [cell_of_row _ _ _ _ _ _ P4.out.row]; rfl
      have kz9 : W4.cell? ⟨Z, 9, none⟩ = some (.int .i64 (y.ver : Nat)) := by rw [cell_of_row _ _ _ _ _ _ KZ4.out]; rfl
      have ky0 : W4.cell? ⟨Y, 0, none⟩ = some (.int .i64 a.k) := by rw [cell_of_row _ _ _ _ _ _ KY4.out]; rfl
      have HVY2 : Hid (y.ver ≤ k + 1) := by have := NS.act_ver rs rh x a; have := HVK.out; show y.ver ≤ _; rw [EY.out]; omega
      clear HV HVK OK
      have hve : y.ver = x.ver ∨ y.ver = x.ver + 1 := by rw [EY.out]; exact NS.act_same rs rh x a
      by_cases hlo : a.k < 0
      · have hsame : y.ver = x.ver := by rw [EY.out]; unfold NS.act; rw [if_neg (by omega), if_neg (by omega), if_neg (by omega), if_neg (by omega)]
        have v1 : ((y.ver : Int) != (x.ver : Int)) = false := by simp only [bne_eq_false_iff_eq]; omega
        have v2 : ((y.ver : Int) == (x.ver : Int)) = true := by simp only [beq_iff_eq]; omega
        have s1 : decide (a.k < 0) = true := decide_eq_true (by omega)
        have k1 : (a.k == 1) = false := beq_eq_false_iff_ne.2 (by omega)
        have hff : ff = true := by rw [EF.out]; unfold NS.frz; rw [if_pos (.inl hlo)]
        subst hff
        clear EY EF HT
        clear hve hsame hlo
        go_upto_region 20 with fail
        have hst := stab_and (stab_pl (w := w) (cr := #[.int .i64 st, .int .i64 (rs : Nat), .int .i64 lo, .int .i64 (rh : Nat)]) (X := X) (B := B) (rs := rs) (rh := rh) (j := j2) (fz := true) (y := y) (x := x) (p := p) (c := cx) (q := q) (d := dx)) (stab_and (stab_lat (S := Fo j2 X) (p := p2) (c := c2) (q := q2) (d := d2) (x := y)) (stab_and (stab_heap Y (.cells a.row 29 (0, 0))) (stab_heap Z (.cells (y.val p2 c2 q2 d2) 40 (0, 0)))))
        refine wp_region_E mixed [3] hst ⟨P4.out.call (below_drew (Below.refl _ _)), L4.out.below (below_drew (Below.refl _ _)), KY4.out, KZ4.out⟩ ?_
        clear kx9 kz9 ky0
        refine wpAnyE_take 0 rfl (by kernel_rfl) (by kernel_rfl) (by kernel_rfl) (fun _ _ _ h => h) hst (EffB.pure rfl (fun _ => rfl)) (.inr (EffB.pure rfl (fun _ => rfl))) ?_
        simp only [act_norm]
        refine wpAnyE_take 1 (v := .agg (y.val p2 c2 q2 d2)) rfl (by kernel_rfl) (by kernel_rfl) (by kernel_rfl) (fun _ _ _ h => h) hst (EffB.run rfl rfl (fun wd hS => ?_)) (.inl (by kernel_rfl)) ?_
        · exact wp_load_row 40 _ rfl (Z) rfl 40 (y.val p2 c2 q2 d2) (0, 0) _ (hS.2.2.2) Try.underlying40 rfl (by kernel_rfl) ⟨rfl, Below.refl _ _⟩
        simp only [act_norm]
        refine wpAnyE_take 2 rfl (by kernel_rfl) (by kernel_rfl) (by kernel_rfl) (fun _ _ _ h => h) hst (EffB.pure rfl (fun _ => rfl)) (.inr (EffB.pure rfl (fun _ => rfl))) ?_
        simp only [act_norm]
        refine wpAnyE_one 3 rfl (by kernel_rfl) rfl (fun wd hS => ?_)
        refine wp_store_row 40 _ _ rfl X (y.val p2 c2 q2 d2) rfl rfl 40 (x.val p cx q dx) hS.1.row loadSize rfl (by simp [Value.oneCell']) ?_
        have Yy := Lib.hid (And.intro (hS.1.set hS.2.1) ((setRow_other wd X Y (y.val p2 c2 q2 d2) (by have := XY.out; omega)).trans hS.2.2.1))
        have hst2 := stab_and (stab_pl (w := w) (cr := #[.int .i64 st, .int .i64 (rs : Nat), .int .i64 lo, .int .i64 (rh : Nat)]) (X := X) (B := B) (rs := rs) (rh := rh) (j := j2) (fz := true) (y := y) (x := y) (p := p2) (c := c2) (q := q2) (d := d2)) (stab_heap Y (.cells a.row 29 (0, 0)))
        refine ⟨_, Yy.out, hst2, .inl (by simp), ?_⟩
        clear hS Yy hst
        try simp only [act_norm]
        refine wpAnyE_done (by kernel_rfl) (fun wd hS => ?_) _
        have P5 := Lib.hid hS.1
        have ky0 : wd.cell? ⟨Y, 0, none⟩ = some (.int .i64 a.k) := by rw [cell_of_row _ _ _ _ _ _ hS.2]; rfl
        have TD := Lib.hid (told17 hS.1.node H64.out hS.1.lat)
        clear hS hst2
        go_wp2_with (first | ((with_reducible refine wpList_load_rowG ?_ 40 _ rfl (X) ?_ 40 (y.val p2 c2 q2 d2) (0, 0) _ 10 ?_ Try.underlying40 rfl (by kernel_rfl) ?_ ?_); kernel_rfl; exact rfl; exact P5.out.row; exact rfl) | fail)
        (with_reducible refine TD.out.mono ?_)
        rintro e w6 ⟨rfl, hb⟩
        have P6 := Lib.hid (P5.out.call hb)
        have FZ := Lib.hid (node_frozen P6.out.node)
        clear hb TD ky0
        go_wp2_with ((with_reducible refine FZ.out.mono ?_); rintro e w7 ⟨rfl, rfl⟩)
        go_roundw
        case rel => exact ⟨k + 1, j2, true, y, p2, q2, c2, d2, by omega, rfl, rfl, by go_num, HVY2.out, P6.out⟩
        case measure => simp [intOf]; omega
      by_cases hhi : 3 < a.k
      · have hsame : y.ver = x.ver := by rw [EY.out]; unfold NS.act; rw [if_neg (by omega), if_neg (by omega), if_neg (by omega), if_neg (by omega)]
        have v1 : ((y.ver : Int) != (x.ver : Int)) = false := by simp only [bne_eq_false_iff_eq]; omega
        have v2 : ((y.ver : Int) == (x.ver : Int)) = true := by simp only [beq_iff_eq]; omega
        have s1 : decide (a.k < 0) = false := decide_eq_false (by omega)
        have s2 : decide (3 < a.k) = true := decide_eq_true (by omega)
        have k1 : (a.k == 1) = false := beq_eq_false_iff_ne.2 (by omega)
        have hff : ff = true := by rw [EF.out]; unfold NS.frz; rw [if_pos (.inr hhi)]
        subst hff
        clear EY EF HT
        clear hve hsame hlo hhi
        go_upto_region 20 with fail
        have hst := stab_and (stab_pl (w := w) (cr := #[.int .i64 st, .int .i64 (rs : Nat), .int .i64 lo, .int .i64 (rh : Nat)]) (X := X) (B := B) (rs := rs) (rh := rh) (j := j2) (fz := true) (y := y) (x := x) (p := p) (c := cx) (q := q) (d := dx)) (stab_and (stab_lat (S := Fo j2 X) (p := p2) (c := c2) (q := q2) (d := d2) (x := y)) (stab_and (stab_heap Y (.cells a.row 29 (0, 0))) (stab_heap Z (.cells (y.val p2 c2 q2 d2) 40 (0, 0)))))
        refine wp_region_E mixed [3] hst ⟨P4.out.call (below_drew (Below.refl _ _)), L4.out.below (below_drew (Below.refl _ _)), KY4.out, KZ4.out⟩ ?_
        clear kx9 kz9 ky0
        refine wpAnyE_take 0 rfl (by kernel_rfl) (by kernel_rfl) (by kernel_rfl) (fun _ _ _ h => h) hst (EffB.pure rfl (fun _ => rfl)) (.inr (EffB.pure rfl (fun _ => rfl))) ?_
        simp only [act_norm]
        refine wpAnyE_take 1 (v := .agg (y.val p2 c2 q2 d2)) rfl (by kernel_rfl) (by kernel_rfl) (by kernel_rfl) (fun _ _ _ h => h) hst (EffB.run rfl rfl (fun wd hS => ?_)) (.inl (by kernel_rfl)) ?_
        · exact wp_load_row 40 _ rfl (Z) rfl 40 (y.val p2 c2 q2 d2) (0, 0) _ (hS.2.2.2) Try.underlying40 rfl (by kernel_rfl) ⟨rfl, Below.refl _ _⟩
        simp only [act_norm]
        refine wpAnyE_take 2 rfl (by kernel_rfl) (by kernel_rfl) (by kernel_rfl) (fun _ _ _ h => h) hst (EffB.pure rfl (fun _ => rfl)) (.inr (EffB.pure rfl (fun _ => rfl))) ?_
        simp only [act_norm]
        refine wpAnyE_one 3 rfl (by kernel_rfl) rfl (fun wd hS => ?_)
        refine wp_store_row 40 _ _ rfl X (y.val p2 c2 q2 d2) rfl rfl 40 (x.val p cx q dx) hS.1.row loadSize rfl (by simp [Value.oneCell']) ?_
        have Yy := Lib.hid (And.intro (hS.1.set hS.2.1) ((setRow_other wd X Y (y.val p2 c2 q2 d2) (by have := XY.out; omega)).trans hS.2.2.1))
        have hst2 := stab_and (stab_pl (w := w) (cr := #[.int .i64 st, .int .i64 (rs : Nat), .int .i64 lo, .int .i64 (rh : Nat)]) (X := X) (B := B) (rs := rs) (rh := rh) (j := j2) (fz := true) (y := y) (x := y) (p := p2) (c := c2) (q := q2) (d := d2)) (stab_heap Y (.cells a.row 29 (0, 0)))
        refine ⟨_, Yy.out, hst2, .inl (by simp), ?_⟩
        clear hS Yy hst
        try simp only [act_norm]
        refine wpAnyE_done (by kernel_rfl) (fun wd hS => ?_) _
        have P5 := Lib.hid hS.1
        have ky0 : wd.cell? ⟨Y, 0, none⟩ = some (.int .i64 a.k) := by rw [cell_of_row _ _ _ _ _ _ hS.2]; rfl
        have TD := Lib.hid (told17 hS.1.node H64.out hS.1.lat)
        clear hS hst2
        go_wp2_with (first | ((with_reducible refine wpList_load_rowG ?_ 40 _ rfl (X) ?_ 40 (y.val p2 c2 q2 d2) (0, 0) _ 10 ?_ Try.underlying40 rfl (by kernel_rfl) ?_ ?_); kernel_rfl; exact rfl; exact P5.out.row; exact rfl) | fail)
        (with_reducible refine TD.out.mono ?_)
        rintro e w6 ⟨rfl, hb⟩
        have P6 := Lib.hid (P5.out.call hb)
        have FZ := Lib.hid (node_frozen P6.out.node)
        clear hb TD ky0
        go_wp2_with ((with_reducible refine FZ.out.mono ?_); rintro e w7 ⟨rfl, rfl⟩)
        go_roundw
        case rel => exact ⟨k + 1, j2, true, y, p2, q2, c2, d2, by omega, rfl, rfl, by go_num, HVY2.out, P6.out⟩
        case measure => simp [intOf]; omega
      by_cases hsm : y.ver = x.ver
      · by_cases hk1 : a.k = 1
        · have v1 : ((y.ver : Int) != (x.ver : Int)) = false := by simp only [bne_eq_false_iff_eq]; omega
          have v2 : ((y.ver : Int) == (x.ver : Int)) = true := by simp only [beq_iff_eq]; omega
          have s1 : decide (a.k < 0) = false := decide_eq_false (by omega)
          have s2 : decide (3 < a.k) = false := decide_eq_false (by omega)
          have k1 : (a.k == 1) = true := by simp only [beq_iff_eq]; omega
          have ht1 := HT.out (x.gone a) (by unfold NS.gone1; rw [if_pos (by omega)])
          subst ht1
          have hff : ff = fz := by rw [EF.out]; unfold NS.frz; rw [if_neg (by omega), if_pos (by rw [← EY.out]; omega)]
          subst hff
          clear EY EF HT
          clear hve hsm hlo hhi hk1
          go_upto_region 20 with fail
          have hst := stab_and (stab_pl (w := w) (cr := #[.int .i64 st, .int .i64 (rs : Nat), .int .i64 lo, .int .i64 (rh : Nat)]) (X := X) (B := B) (rs := rs) (rh := rh) (j := j2) (fz := ff) (y := y) (x := x) (p := p) (c := cx) (q := q) (d := dx)) (stab_and (stab_lat (S := Fo j2 X) (p := p2) (c := c2) (q := q2) (d := d2) (x := y)) (stab_and (stab_heap Y (.cells a.row 29 (0, 0))) (stab_heap Z (.cells (y.val p2 c2 q2 d2) 40 (0, 0)))))
          refine wp_region_E mixed [3] hst ⟨P4.out.call (below_drew (Below.refl _ _)), L4.out.below (below_drew (Below.refl _ _)), KY4.out, KZ4.out⟩ ?_
          clear kx9 kz9 ky0
          refine wpAnyE_take 0 rfl (by kernel_rfl) (by kernel_rfl) (by kernel_rfl) (fun _ _ _ h => h) hst (EffB.pure rfl (fun _ => rfl)) (.inr (EffB.pure rfl (fun _ => rfl))) ?_
          simp only [act_norm]
          refine wpAnyE_take 1 (v := .agg (y.val p2 c2 q2 d2)) rfl (by kernel_rfl) (by kernel_rfl) (by kernel_rfl) (fun _ _ _ h => h) hst (EffB.run rfl rfl (fun wd hS => ?_)) (.inl (by kernel_rfl)) ?_
          · exact wp_load_row 40 _ rfl (Z) rfl 40 (y.val p2 c2 q2 d2) (0, 0) _ (hS.2.2.2) Try.underlying40 rfl (by kernel_rfl) ⟨rfl, Below.refl _ _⟩
          simp only [act_norm]
          refine wpAnyE_take 2 rfl (by kernel_rfl) (by kernel_rfl) (by kernel_rfl) (fun _ _ _ h => h) hst (EffB.pure rfl (fun _ => rfl)) (.inr (EffB.pure rfl (fun _ => rfl))) ?_
          simp only [act_norm]
          refine wpAnyE_one 3 rfl (by kernel_rfl) rfl (fun wd hS => ?_)
          refine wp_store_row 40 _ _ rfl X (y.val p2 c2 q2 d2) rfl rfl 40 (x.val p cx q dx) hS.1.row loadSize rfl (by simp [Value.oneCell']) ?_
          have Yy := Lib.hid (And.intro (hS.1.set hS.2.1) ((setRow_other wd X Y (y.val p2 c2 q2 d2) (by have := XY.out; omega)).trans hS.2.2.1))
          have hst2 := stab_and (stab_pl (w := w) (cr := #[.int .i64 st, .int .i64 (rs : Nat), .int .i64 lo, .int .i64 (rh : Nat)]) (X := X) (B := B) (rs := rs) (rh := rh) (j := j2) (fz := ff) (y := y) (x := y) (p := p2) (c := c2) (q := q2) (d := d2)) (stab_heap Y (.cells a.row 29 (0, 0)))
          refine ⟨_, Yy.out, hst2, .inl (by simp), ?_⟩
          clear hS Yy hst
          try simp only [act_norm]
          refine wpAnyE_done (by kernel_rfl) (fun wd hS => ?_) _
          have P5 := Lib.hid hS.1
          have ky0 : wd.cell? ⟨Y, 0, none⟩ = some (.int .i64 a.k) := by rw [cell_of_row _ _ _ _ _ _ hS.2]; rfl
          have TD := Lib.hid (told17 hS.1.node H64.out hS.1.lat)
          clear hS hst2
          go_wp2_with (first | ((with_reducible refine wpList_load_rowG ?_ 40 _ rfl (X) ?_ 40 (y.val p2 c2 q2 d2) (0, 0) _ 10 ?_ Try.underlying40 rfl (by kernel_rfl) ?_ ?_); kernel_rfl; exact rfl; exact P5.out.row; exact rfl) | fail)
          (with_reducible refine TD.out.mono ?_)
          rintro e w6 ⟨rfl, hb⟩
          have P6 := Lib.hid (P5.out.call hb)
          have FZ := Lib.hid (node_frozen P6.out.node)
          clear hb TD ky0
          go_wp2_with ((with_reducible refine FZ.out.mono ?_); rintro e w7 ⟨rfl, rfl⟩)
          go_roundw
          case rel => exact ⟨k + 1, j2, ff, y, p2, q2, c2, d2, by omega, rfl, rfl, by go_num, HVY2.out, P6.out⟩
          case measure => simp [intOf]; omega
        · have v1 : ((y.ver : Int) != (x.ver : Int)) = false := by simp only [bne_eq_false_iff_eq]; omega
          have v2 : ((y.ver : Int) == (x.ver : Int)) = true := by simp only [beq_iff_eq]; omega
          have s1 : decide (a.k < 0) = false := decide_eq_false (by omega)
          have s2 : decide (3 < a.k) = false := decide_eq_false (by omega)
          have k1 : (a.k == 1) = false := beq_eq_false_iff_ne.2 (by omega)
          have hff : ff = fz := by rw [EF.out]; unfold NS.frz; rw [if_neg (by omega), if_pos (by rw [← EY.out]; omega)]
          subst hff
          clear EY EF HT
          clear hve hsm hlo hhi hk1
          go_upto_region 20 with fail
          have hst := stab_and (stab_pl (w := w) (cr := #[.int .i64 st, .int .i64 (rs : Nat), .int .i64 lo, .int .i64 (rh : Nat)]) (X := X) (B := B) (rs := rs) (rh := rh) (j := j2) (fz := ff) (y := y) (x := x) (p := p) (c := cx) (q := q) (d := dx)) (stab_and (stab_lat (S := Fo j2 X) (p := p2) (c := c2) (q := q2) (d := d2) (x := y)) (stab_and (stab_heap Y (.cells a.row 29 (0, 0))) (stab_heap Z (.cells (y.val p2 c2 q2 d2) 40 (0, 0)))))
          refine wp_region_E mixed [3] hst ⟨P4.out.call (below_drew (Below.refl _ _)), L4.out.below (below_drew (Below.refl _ _)), KY4.out, KZ4.out⟩ ?_
          clear kx9 kz9 ky0
          refine wpAnyE_take 0 rfl (by kernel_rfl) (by kernel_rfl) (by kernel_rfl) (fun _ _ _ h => h) hst (EffB.pure rfl (fun _ => rfl)) (.inr (EffB.pure rfl (fun _ => rfl))) ?_
          simp only [act_norm]
          refine wpAnyE_take 1 (v := .agg (y.val p2 c2 q2 d2)) rfl (by kernel_rfl) (by kernel_rfl) (by kernel_rfl) (fun _ _ _ h => h) hst (EffB.run rfl rfl (fun wd hS => ?_)) (.inl (by kernel_rfl)) ?_
          · exact wp_load_row 40 _ rfl (Z) rfl 40 (y.val p2 c2 q2 d2) (0, 0) _ (hS.2.2.2) Try.underlying40 rfl (by kernel_rfl) ⟨rfl, Below.refl _ _⟩
          simp only [act_norm]
          refine wpAnyE_take 2 rfl (by kernel_rfl) (by kernel_rfl) (by kernel_rfl) (fun _ _ _ h => h) hst (EffB.pure rfl (fun _ => rfl)) (.inr (EffB.pure rfl (fun _ => rfl))) ?_
          simp only [act_norm]
          refine wpAnyE_one 3 rfl (by kernel_rfl) rfl (fun wd hS => ?_)
          refine wp_store_row 40 _ _ rfl X (y.val p2 c2 q2 d2) rfl rfl 40 (x.val p cx q dx) hS.1.row loadSize rfl (by simp [Value.oneCell']) ?_
          have Yy := Lib.hid (And.intro (hS.1.set hS.2.1) ((setRow_other wd X Y (y.val p2 c2 q2 d2) (by have := XY.out; omega)).trans hS.2.2.1))
          have hst2 := stab_and (stab_pl (w := w) (cr := #[.int .i64 st, .int .i64 (rs : Nat), .int .i64 lo, .int .i64 (rh : Nat)]) (X := X) (B := B) (rs := rs) (rh := rh) (j := j2) (fz := ff) (y := y) (x := y) (p := p2) (c := c2) (q := q2) (d := d2)) (stab_heap Y (.cells a.row 29 (0, 0)))
          refine ⟨_, Yy.out, hst2, .inl (by simp), ?_⟩
          clear hS Yy hst
          try simp only [act_norm]
          refine wpAnyE_done (by kernel_rfl) (fun wd hS => ?_) _
          have P5 := Lib.hid hS.1
          have ky0 : wd.cell? ⟨Y, 0, none⟩ = some (.int .i64 a.k) := by rw [cell_of_row _ _ _ _ _ _ hS.2]; rfl
          have TD := Lib.hid (told17 hS.1.node H64.out hS.1.lat)
          clear hS hst2
          go_wp2_with (first | ((with_reducible refine wpList_load_rowG ?_ 40 _ rfl (X) ?_ 40 (y.val p2 c2 q2 d2) (0, 0) _ 10 ?_ Try.underlying40 rfl (by kernel_rfl) ?_ ?_); kernel_rfl; exact rfl; exact P5.out.row; exact rfl) | fail)
          (with_reducible refine TD.out.mono ?_)
          rintro e w6 ⟨rfl, hb⟩
          have P6 := Lib.hid (P5.out.call hb)
          have FZ := Lib.hid (node_frozen P6.out.node)
          clear hb TD ky0
          go_wp2_with ((with_reducible refine FZ.out.mono ?_); rintro e w7 ⟨rfl, rfl⟩)
          go_roundw
          case rel => exact ⟨k + 1, j2, ff, y, p2, q2, c2, d2, by omega, rfl, rfl, by go_num, HVY2.out, P6.out⟩
          case measure => simp [intOf]; omega
      · by_cases hk1 : a.k = 1
        · have v1 : ((y.ver : Int) != (x.ver : Int)) = true := by simp only [bne_iff_ne, ne_eq]; omega
          have v2 : ((y.ver : Int) == (x.ver : Int)) = false := beq_eq_false_iff_ne.2 (by omega)
          have s1 : decide (a.k < 0) = false := decide_eq_false (by omega)
          have s2 : decide (3 < a.k) = false := decide_eq_false (by omega)
          have k1 : (a.k == 1) = true := by simp only [beq_iff_eq]; omega
          have ht1 := HT.out (x.gone a) (by unfold NS.gone1; rw [if_pos (by omega)])
          subst ht1
          have hff : ff = false := by rw [EF.out]; unfold NS.frz; rw [if_neg (by omega), if_neg (by rw [← EY.out]; omega)]
          subst hff
          clear EY EF HT
          clear hve hsm hlo hhi hk1
          go_upto_region 20 with fail
          have hst := stab_and (stab_pl (w := w) (cr := #[.int .i64 st, .int .i64 (rs : Nat), .int .i64 lo, .int .i64 (rh : Nat)]) (X := X) (B := B) (rs := rs) (rh := rh) (j := j2) (fz := false) (y := y) (x := x) (p := p) (c := cx) (q := q) (d := dx)) (stab_and (stab_lat (S := Fo j2 X) (p := p2) (c := c2) (q := q2) (d := d2) (x := y)) (stab_and (stab_heap Y (.cells a.row 29 (0, 0))) (stab_heap Z (.cells (y.val p2 c2 q2 d2) 40 (0, 0)))))
          refine wp_region_E mixed [3] hst ⟨P4.out.call (below_drew (Below.refl _ _)), L4.out.below (below_drew (Below.refl _ _)), KY4.out, KZ4.out⟩ ?_
          clear kx9 kz9 ky0
          refine wpAnyE_take 0 rfl (by kernel_rfl) (by kernel_rfl) (by kernel_rfl) (fun _ _ _ h => h) hst (EffB.pure rfl (fun _ => rfl)) (.inr (EffB.pure rfl (fun _ => rfl))) ?_
          simp only [act_norm]
          refine wpAnyE_take 1 (v := .agg (y.val p2 c2 q2 d2)) rfl (by kernel_rfl) (by kernel_rfl) (by kernel_rfl) (fun _ _ _ h => h) hst (EffB.run rfl rfl (fun wd hS => ?_)) (.inl (by kernel_rfl)) ?_
          · exact wp_load_row 40 _ rfl (Z) rfl 40 (y.val p2 c2 q2 d2) (0, 0) _ (hS.2.2.2) Try.underlying40 rfl (by kernel_rfl) ⟨rfl, Below.refl _ _⟩
          simp only [act_norm]
          refine wpAnyE_take 2 rfl (by kernel_rfl) (by kernel_rfl) (by kernel_rfl) (fun _ _ _ h => h) hst (EffB.pure rfl (fun _ => rfl)) (.inr (EffB.pure rfl (fun _ => rfl))) ?_
          simp only [act_norm]
          refine wpAnyE_one 3 rfl (by kernel_rfl) rfl (fun wd hS => ?_)
          refine wp_store_row 40 _ _ rfl X (y.val p2 c2 q2 d2) rfl rfl 40 (x.val p cx q dx) hS.1.row loadSize rfl (by simp [Value.oneCell']) ?_
          have Yy := Lib.hid (And.intro (hS.1.set hS.2.1) ((setRow_other wd X Y (y.val p2 c2 q2 d2) (by have := XY.out; omega)).trans hS.2.2.1))
          have hst2 := stab_and (stab_pl (w := w) (cr := #[.int .i64 st, .int .i64 (rs : Nat), .int .i64 lo, .int .i64 (rh : Nat)]) (X := X) (B := B) (rs := rs) (rh := rh) (j := j2) (fz := false) (y := y) (x := y) (p := p2) (c := c2) (q := q2) (d := d2)) (stab_heap Y (.cells a.row 29 (0, 0)))
          refine ⟨_, Yy.out, hst2, .inl (by simp), ?_⟩
          clear hS Yy hst
          try simp only [act_norm]
          refine wpAnyE_done (by kernel_rfl) (fun wd hS => ?_) _
          have P5 := Lib.hid hS.1
          have ky0 : wd.cell? ⟨Y, 0, none⟩ = some (.int .i64 a.k) := by rw [cell_of_row _ _ _ _ _ _ hS.2]; rfl
          have TD := Lib.hid (told17 hS.1.node H64.out hS.1.lat)
          clear hS hst2
          go_wp2_with (first | ((with_reducible refine wpList_load_rowG ?_ 40 _ rfl (X) ?_ 40 (y.val p2 c2 q2 d2) (0, 0) _ 10 ?_ Try.underlying40 rfl (by kernel_rfl) ?_ ?_); kernel_rfl; exact rfl; exact P5.out.row; exact rfl) | fail)
          (with_reducible refine TD.out.mono ?_)
          rintro e w6 ⟨rfl, hb⟩
          have P6 := Lib.hid (P5.out.call hb)
          have FZ := Lib.hid (node_frozen P6.out.node)
          clear hb TD ky0
          go_wp2_with ((with_reducible refine FZ.out.mono ?_); rintro e w7 ⟨rfl, rfl⟩)
          go_roundw
          case rel => exact ⟨k + 1, j2, false, y, p2, q2, c2, d2, by omega, rfl, rfl, by go_num, HVY2.out, P6.out⟩
          case measure => simp [intOf]; omega
        · have v1 : ((y.ver : Int) != (x.ver : Int)) = true := by simp only [bne_iff_ne, ne_eq]; omega
          have v2 : ((y.ver : Int) == (x.ver : Int)) = false := beq_eq_false_iff_ne.2 (by omega)
          have s1 : decide (a.k < 0) = false := decide_eq_false (by omega)
          have s2 : decide (3 < a.k) = false := decide_eq_false (by omega)
          have k1 : (a.k == 1) = false := beq_eq_false_iff_ne.2 (by omega)
          have hff : ff = false := by rw [EF.out]; unfold NS.frz; rw [if_neg (by omega), if_neg (by rw [← EY.out]; omega)]
          subst hff
          clear EY EF HT
          clear hve hsm hlo hhi hk1
          go_upto_region 20 with fail
          have hst := stab_and (stab_pl (w := w) (cr := #[.int .i64 st, .int .i64 (rs : Nat), .int .i64 lo, .int .i64 (rh : Nat)]) (X := X) (B := B) (rs := rs) (rh := rh) (j := j2) (fz := false) (y := y) (x := x) (p := p) (c := cx) (q := q) (d := dx)) (stab_and (stab_lat (S := Fo j2 X) (p := p2) (c := c2) (q := q2) (d := d2) (x := y)) (stab_and (stab_heap Y (.cells a.row 29 (0, 0))) (stab_heap Z (.cells (y.val p2 c2 q2 d2) 40 (0, 0)))))
          refine wp_region_E mixed [3] hst ⟨P4.out.call (below_drew (Below.refl _ _)), L4.out.below (below_drew (Below.refl _ _)), KY4.out, KZ4.out⟩ ?_
          clear kx9 kz9 ky0
          refine wpAnyE_take 0 rfl (by kernel_rfl) (by kernel_rfl) (by kernel_rfl) (fun _ _ _ h => h) hst (EffB.pure rfl (fun _ => rfl)) (.inr (EffB.pure rfl (fun _ => rfl))) ?_
          simp only [act_norm]
          refine wpAnyE_take 1 (v := .agg (y.val p2 c2 q2 d2)) rfl (by kernel_rfl) (by kernel_rfl) (by kernel_rfl) (fun _ _ _ h => h) hst (EffB.run rfl rfl (fun wd hS => ?_)) (.inl (by kernel_rfl)) ?_
          · exact wp_load_row 40 _ rfl (Z) rfl 40 (y.val p2 c2 q2 d2) (0, 0) _ (hS.2.2.2) Try.underlying40 rfl (by kernel_rfl) ⟨rfl, Below.refl _ _⟩
          simp only [act_norm]
          refine wpAnyE_take 2 rfl (by kernel_rfl) (by kernel_rfl) (by kernel_rfl) (fun _ _ _ h => h) hst (EffB.pure rfl (fun _ => rfl)) (.inr (EffB.pure rfl (fun _ => rfl))) ?_
          simp only [act_norm]
          refine wpAnyE_one 3 rfl (by kernel_rfl) rfl (fun wd hS => ?_)
          refine wp_store_row 40 _ _ rfl X (y.val p2 c2 q2 d2) rfl rfl 40 (x.val p cx q dx) hS.1.row loadSize rfl (by simp [Value.oneCell']) ?_
          have Yy := Lib.hid (And.intro (hS.1.set hS.2.1) ((setRow_other wd X Y (y.val p2 c2 q2 d2) (by have := XY.out; omega)).trans hS.2.2.1))
          have hst2 := stab_and (stab_pl (w := w) (cr := #[.int .i64 st, .int .i64 (rs : Nat), .int .i64 lo, .int .i64 (rh : Nat)]) (X := X) (B := B) (rs := rs) (rh := rh) (j := j2) (fz := false) (y := y) (x := y) (p := p2) (c := c2) (q := q2) (d := d2)) (stab_heap Y (.cells a.row 29 (0, 0)))
          refine ⟨_, Yy.out, hst2, .inl (by simp), ?_⟩
          clear hS Yy hst
          try simp only [act_norm]
          refine wpAnyE_done (by kernel_rfl) (fun wd hS => ?_) _
          have P5 := Lib.hid hS.1
          have ky0 : wd.cell? ⟨Y, 0, none⟩ = some (.int .i64 a.k) := by rw [cell_of_row _ _ _ _ _ _ hS.2]; rfl
          have TD := Lib.hid (told17 hS.1.node H64.out hS.1.lat)
          clear hS hst2
          go_wp2_with (first | ((with_reducible refine wpList_load_rowG ?_ 40 _ rfl (X) ?_ 40 (y.val p2 c2 q2 d2) (0, 0) _ 10 ?_ Try.underlying40 rfl (by kernel_rfl) ?_ ?_); kernel_rfl; exact rfl; exact P5.out.row; exact rfl) | fail)
          (with_reducible refine TD.out.mono ?_)
          rintro e w6 ⟨rfl, hb⟩
          have P6 := Lib.hid (P5.out.call hb)
          have FZ := Lib.hid (node_frozen P6.out.node)
          clear hb TD ky0
          go_wp2_with ((with_reducible refine FZ.out.mono ?_); rintro e w7 ⟨rfl, rfl⟩)
          go_roundw
          case rel => exact ⟨k + 1, j2, false, y, p2, q2, c2, d2, by omega, rfl, rfl, by go_num, HVY2.out, P6.out⟩
          case measure => simp [intOf]; omega
    · obtain rfl : k = N := by omega
      have HB := Lib.hid hP.below
      clear hP
      go_wp2
      go_ret
      exact ⟨rfl, HB.out⟩

theorem nodePlays_walk (c : Cfg) (hc : c.In) (ps : Option Addr) (cps : Nat) (l : List Nac) (hl : l.length ≤ 9223372036854775807) (w : World) (hs : Nacs w ps l) : Calls Try.prog 4 #[.agg #[.int .i64 c.st, .int .i64 c.sa, .int .i64 c.lo, .int .i64 c.hi], .slice ps l.length cps] w fun e w' => e = .returned (.bool true) ∧ Below w.heap.size w w' := by
  by_cases hf : c.Fine
  · obtain ⟨st, sa, lo, hi⟩ := c
    obtain ⟨rs, rfl⟩ : ∃ rs : Nat, sa = rs := ⟨sa.toNat, by have := hf.sa.1; simp only at this; omega⟩
    obtain ⟨rh, rfl⟩ : ∃ rh : Nat, hi = rh := ⟨hi.toNat, by have := hf.hi.1; simp only at this; omega⟩
    exact nodePlays_yes st lo rs rh hc hf ps l.length cps l rfl w hs hl
  · exact nodePlays_no c hc hf ps l.length cps w
end Go.Proofs.Ytapgcbjlgekpeaa
