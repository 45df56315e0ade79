/- Layer 17: NodeFreezes, walked. -/
import Derived.Test.YtapgcbjlgekpeaaJPlay17b
namespace Go.Proofs.Ytapgcbjlgekpeaa
open Go.ChangeShapes Go.WideShapes Go.ChangeAt Go.RowKit

theorem nodeFreezes_no (c : Cfg) (hc : c.In) (hf : ¬ c.Fine) (ps qs : Option Addr) (N M cps cqs : Nat) (w : World) : Calls Try.prog 5 #[.agg #[.int .i64 c.st, .int .i64 c.sa, .int .i64 c.lo, .int .i64 c.hi], .slice ps N cps, .slice qs M cqs] w fun e w' => e = .returned (.bool true) ∧ Below w.heap.size w w' := by
  have A := Lib.hid awake17
  have RR := Lib.hid (ref17_right c hc false ⟨fun h => absurd h hf, fun _ => rfl⟩)
  have B0 := Lib.hid (below1 w (.cells #[.int .i64 c.st, .int .i64 c.sa, .int .i64 c.lo, .int .i64 c.hi] 34))
  have K0 : Hid ((w.alloc (.cells #[.int .i64 c.st, .int .i64 c.sa, .int .i64 c.lo, .int .i64 c.hi] 34)).heap[w.heap.size]? = some (.cells #[.int .i64 c.st, .int .i64 c.sa, .int .i64 c.lo, .int .i64 c.hi] 34 (0, 0))) := heap_alloc_at _ _ _ rfl
  clear hc hf
  go_enter Try.func5, Try.ntmps5
  go_upto_region 1 with fail
  generalize (w.alloc (.cells #[.int .i64 c.st, .int .i64 c.sa, .int .i64 c.lo, .int .i64 c.hi] 34)) = W0 at *
  go_wp2_with (first | ((with_reducible refine wpList_load_rowAs rfl 34 _ rfl (w.heap.size) ?_ 34 #[.int .i64 c.st, .int .i64 c.sa, .int .i64 c.lo, .int .i64 c.hi] (0, 0) _ 4 ?_ Try.underlying34 rfl (by kernel_rfl) ?_ ?_); exact rfl; exact K0.out; exact rfl) | ((with_reducible refine wpList_load_rowG ?_ 34 _ rfl (w.heap.size) ?_ 34 #[.int .i64 c.st, .int .i64 c.sa, .int .i64 c.lo, .int .i64 c.hi] (0, 0) _ 4 ?_ Try.underlying34 rfl (by kernel_rfl) ?_ ?_); kernel_rfl; exact rfl; exact K0.out; exact rfl) | fail)
  (with_reducible refine (A.out _).mono ?_)
  rintro e w1 ⟨rfl, hb⟩
  have B1 := Lib.hid (B0.out.trans (hb.mono B0.out.size))
  have K1 := Lib.hid ((hb.block _ (lt_of_heap K0.out)).trans K0.out)
  clear hb K0 B0
  go_wp2_with (first | ((with_reducible refine wpList_load_rowAs rfl 34 _ rfl (w.heap.size) ?_ 34 #[.int .i64 c.st, .int .i64 c.sa, .int .i64 c.lo, .int .i64 c.hi] (0, 0) _ 4 ?_ Try.underlying34 rfl (by kernel_rfl) ?_ ?_); exact rfl; exact K1.out; exact rfl) | ((with_reducible refine wpList_load_rowG ?_ 34 _ rfl (w.heap.size) ?_ 34 #[.int .i64 c.st, .int .i64 c.sa, .int .i64 c.lo, .int .i64 c.hi] (0, 0) _ 4 ?_ Try.underlying34 rfl (by kernel_rfl) ?_ ?_); kernel_rfl; exact rfl; exact K1.out; exact rfl) | fail)
  (with_reducible refine (RR.out _).mono ?_)
  rintro e w2 ⟨rfl, hb⟩
  have B2 := Lib.hid (B1.out.trans (hb.mono B1.out.size))
  have K2 := Lib.hid ((hb.block _ (lt_of_heap K1.out)).trans K1.out)
  clear hb K1 B1
  go_wp2
  go_ret
  exact ⟨rfl, B2.out⟩

set_option maxHeartbeats 4000000 in
set_option maxRecDepth 100000 in
theorem nodeFreezes_yes (st lo : Int) (rs rh : Nat) (hc : Cfg.In ⟨st, rs, lo, rh⟩) (hf : Cfg.Fine ⟨st, rs, lo, rh⟩) (ps qs : Option Addr) (N M cps cqs : Nat) (l l2 : List Nac) (hl : l.length = N) (hl2 : l2.length = M) (w : World) (hs : Nacs w ps l) (hs2 : Nacs w qs l2) (hN2 : N ≤ 9223372036854775807) (hM2 : M ≤ 9223372036854775807) : Calls Try.prog 5 #[.agg #[.int .i64 st, .int .i64 (rs : Nat), .int .i64 lo, .int .i64 (rh : Nat)], .slice ps N cps, .slice qs M cqs] w fun e w' => e = .returned (.bool true) ∧ Below w.heap.size w w' := by
  have A := Lib.hid awake17
  have NEW : Hid (∀ W : World, Calls Try.prog 16 #[.agg #[.int .i64 st, .int .i64 (rs : Nat), .int .i64 lo, .int .i64 (rh : Nat)]] W fun e w' => ∃ j : NI, e = .returned j.ptr ∧ NodeAt w' W.heap.size j rs rh false NS.zero ∧ Below W.heap.size W w') := fun W => node_new ⟨st, rs, lo, rh⟩ hc hf rs rh rfl rfl W
  have RR : Hid (∀ W : World, Calls Try.prog 22 #[.agg #[.int .i64 st, .int .i64 (rs : Nat), .int .i64 lo, .int .i64 (rh : Nat)]] W fun e w' => e = .returned (.bool true) ∧ Below W.heap.size W w') := fun W => ref17_right ⟨st, rs, lo, rh⟩ hc true ⟨fun _ => rfl, fun h => absurd hf h⟩ W
  have H64 : Hid (rh ≤ 64) := by have := hf.hi.2; show rh ≤ 64; simp only at this; omega
  have B0 := Lib.hid (below1 w (.cells #[.int .i64 st, .int .i64 (rs : Nat), .int .i64 lo, .int .i64 (rh : Nat)] 34))
  have BZ0 : Hid (w.heap.size < (w.alloc (.cells #[.int .i64 st, .int .i64 (rs : Nat), .int .i64 lo, .int .i64 (rh : Nat)] 34)).heap.size) := by show _ < _; simp
  have K0 : Hid ((w.alloc (.cells #[.int .i64 st, .int .i64 (rs : Nat), .int .i64 lo, .int .i64 (rh : Nat)] 34)).heap[w.heap.size]? = some (.cells #[.int .i64 st, .int .i64 (rs : Nat), .int .i64 lo, .int .i64 (rh : Nat)] 34 (0, 0))) := heap_alloc_at _ _ _ rfl
  have HS := Lib.hid hs
  have HL := Lib.hid hl
  have HS2 := Lib.hid hs2
  have HL2 := Lib.hid hl2
  clear hc hf hs hl hs2 hl2
  go_enter Try.func5, Try.ntmps5
  go_upto_region 1 with fail
  generalize (w.alloc (.cells #[.int .i64 st, .int .i64 (rs : Nat), .int .i64 lo, .int .i64 (rh : Nat)] 34)) = W0 at *
  go_wp2_with (first | ((with_reducible refine wpList_load_rowAs rfl 34 _ rfl (w.heap.size) ?_ 34 #[.int .i64 st, .int .i64 (rs : Nat), .int .i64 lo, .int .i64 (rh : Nat)] (0, 0) _ 4 ?_ Try.underlying34 rfl (by kernel_rfl) ?_ ?_); exact rfl; exact K0.out; exact rfl) | ((with_reducible refine wpList_load_rowG ?_ 34 _ rfl (w.heap.size) ?_ 34 #[.int .i64 st, .int .i64 (rs : Nat), .int .i64 lo, .int .i64 (rh : Nat)] (0, 0) _ 4 ?_ Try.underlying34 rfl (by kernel_rfl) ?_ ?_); kernel_rfl; exact rfl; exact K0.out; exact rfl) | fail)
  (with_reducible refine (A.out _).mono ?_)
  rintro e w1 ⟨rfl, hb⟩
  have B1 := Lib.hid (B0.out.trans (hb.mono B0.out.size))
  have K1 := Lib.hid ((hb.block _ (lt_of_heap K0.out)).trans K0.out)
  have BZ1 := Lib.hid (Nat.lt_of_lt_of_le BZ0.out hb.size)
  clear hb K0 B0
  go_wp2_with (first | ((with_reducible refine wpList_load_rowAs rfl 34 _ rfl (w.heap.size) ?_ 34 #[.int .i64 st, .int .i64 (rs : Nat), .int .i64 lo, .int .i64 (rh : Nat)] (0, 0) _ 4 ?_ Try.underlying34 rfl (by kernel_rfl) ?_ ?_); exact rfl; exact K1.out; exact rfl) | ((with_reducible refine wpList_load_rowG ?_ 34 _ rfl (w.heap.size) ?_ 34 #[.int .i64 st, .int .i64 (rs : Nat), .int .i64 lo, .int .i64 (rh : Nat)] (0, 0) _ 4 ?_ Try.underlying34 rfl (by kernel_rfl) ?_ ?_); kernel_rfl; exact rfl; exact K1.out; exact rfl) | fail)
  (with_reducible refine (RR.out _).mono ?_)
  rintro e w2 ⟨rfl, hb⟩
  have B2 := Lib.hid (B1.out.trans (hb.mono B1.out.size))
  have K2 := Lib.hid ((hb.block _ (lt_of_heap K1.out)).trans K1.out)
  have BZ2 := Lib.hid (Nat.lt_of_lt_of_le BZ1.out hb.size)
  clear hb K1 B1
  clear BZ0 BZ1
  by_cases h30 : 30 < N
  · have d30 : decide ((30 : Int) < (N : Int)) = true := decide_eq_true (by omega)
    go_wp2
    go_ret
    exact ⟨rfl, B2.out⟩
  have d30 : decide ((30 : Int) < (N : Int)) = false := decide_eq_false (by omega)
  by_cases h31 : 30 < M
  · have d31 : decide ((30 : Int) < (M : Int)) = true := decide_eq_true (by omega)
    go_wp2
    go_ret
    exact ⟨rfl, B2.out⟩
  have d31 : decide ((30 : Int) < (M : Int)) = false := decide_eq_false (by omega)
  go_wp2_with (first | ((with_reducible refine wpList_load_rowAs rfl 34 _ rfl (w.heap.size) ?_ 34 #[.int .i64 st, .int .i64 (rs : Nat), .int .i64 lo, .int .i64 (rh : Nat)] (0, 0) _ 4 ?_ Try.underlying34 rfl (by kernel_rfl) ?_ ?_); exact rfl; exact K2.out; exact rfl) | fail)
  (with_reducible refine (NEW.out _).mono ?_)
  rintro e w3 ⟨j0, rfl, hN, hb⟩
  obtain ⟨B, hB⟩ : ∃ B, B = w2.heap.size := ⟨_, rfl⟩
  rw [← hB] at hN
  have BZ3 : Hid (w.heap.size < B) := by show _ < _; rw [hB]; exact BZ2.out
  have N3 := Lib.hid hN
  have B3 := Lib.hid (B2.out.trans (hb.mono B2.out.size))
  have K3 := Lib.hid ((hb.block _ (lt_of_heap K2.out)).trans K2.out)
  clear hb hN hB K2 B2 BZ2 NEW A RR
  go_upto_region 7 with fail
  have P0 := Lib.hid (Pl.start B3.out K3.out N3.out BZ3.out)
  generalize hW5 : w3.alloc (.cells zeroLoad 40) = w5 at *
  generalize hX : w3.heap.size = X at *
  clear hW5 hX B3 K3 N3 BZ3
  go_wp2
  go_loopw [7, 34] (fun n i wr => ∃ (k : Nat) (j : NI) (fz : Bool) (x : NS) (p q : Option Addr) (cx dx : Nat), k ≤ N ∧ n = j.ptr ∧ i = .int .i64 k ∧ x.ver ≤ k ∧ Pl w wr #[.int .i64 st, .int .i64 (rs : Nat), .int .i64 lo, .int .i64 (rh : Nat)] X B rs rh j fz x x p cx q dx) (fun _ i _ => N - (intOf i).toNat)
  case atStart => exact ⟨0, j0, false, NS.zero, none, none, 0, 0, by omega, rfl, rfl, Nat.le_refl _, P0.out⟩
  case round =>
    clear P0
    obtain ⟨k, j, fz, x, p, q, cx, dx, hk, rfl, rfl, hv, hP⟩ := hrel
    by_cases hkN : k < N
    · obtain ⟨b, off, rfl, hb, hcell⟩ := HS.out.cells k (by rw [HL.out]; exact hkN)
      obtain ⟨a, ea⟩ : ∃ a, a = (l[k]?.getD default : Nac) := ⟨_, rfl⟩
      rw [← ea] at hcell
      have RA := Lib.hid (Nac.rangeAt hcell hb hP.below)
      have P0 := Lib.hid hP
      have HV : Hid (x.ver ≤ 100000) := by show x.ver ≤ 100000; omega
      have HVK := Lib.hid hv
      have Z0 : Hid ((wr.alloc (.cells #[.int .i64 0, .int .i64 0, .int .i64 0, .int .i64 0, .int .i64 0, .int .i64 0, .int .i64 0, .int .i64 0, .int .i64 0, .int .i64 0, .int .i64 0, .int .i64 0, .int .i64 0, .int .i64 0] 29)).heap[wr.heap.size]? = some (.cells #[.int .i64 0, .int .i64 0, .int .i64 0, .int .i64 0, .int .i64 0, .int .i64 0, .int .i64 0, .int .i64 0, .int .i64 0, .int .i64 0, .int .i64 0, .int .i64 0, .int .i64 0, .int .i64 0] 29 (0, 0))) := heap_alloc_at _ _ _ rfl
      clear hP hcell ea hb hv
      go_upto_region 10 with (first | ((with_reducible refine wpList_store_rowAs rfl 29 _ _ rfl (wr.heap.size) a.row ?_ ?_ 29 #[.int .i64 0, .int .i64 0, .int .i64 0, .int .i64 0, .int .i64 0, .int .i64 0, .int .i64 0, .int .i64 0, .int .i64 0, .int .i64 0, .int .i64 0, .int .i64 0, .int .i64 0, .int .i64 0] 14 ?_ (by kernel_rfl) rfl rfl (by simp [Value.oneCell']) ?_); exact rfl; exact rfl; exact Z0.out; (first | rw [row_1_0] | rw [row_2_0] | rw [row_2_1] | rw [row_3_0] | rw [row_3_1] | rw [row_3_2] | rw [row_4_0] | rw [row_4_1] | rw [row_4_2] | rw [row_4_3] | rw [row_5_0] | rw [row_5_1] | rw [row_5_2] | rw [row_5_3] | rw [row_5_4] | rw [row_6_0] | rw [row_6_1] | rw [row_6_2] | rw [row_6_3] | rw [row_6_4] | rw [row_6_5] | simp only [setRow_alloc_past, setRow_alloc_at, World.size_alloc, Nat.add_assoc, Nat.reduceAdd, Nat.lt_add_right_iff_pos, Nat.add_lt_add_iff_left, Nat.reduceLT, Nat.zero_lt_succ, Nat.lt_add_one])) | ((with_reducible refine wpList_load_midA rfl 29 _ rfl b (off + k * 14) ?_ a.row _ RA.out Try.underlying29 rfl (actSize a) ?_); exact rfl) | fail)
      have P1 := Lib.hid (P0.out.call (below1 wr (.cells a.row 29)))
      have KY1 : Hid ((wr.alloc (.cells a.row 29)).heap[wr.heap.size]? = some (.cells a.row 29 (0, 0))) := heap_alloc_at _ _ _ rfl
      have NY := Lib.hid P0.out.lt
      clear P0 RA Z0
      generalize hW1 : wr.alloc (.cells a.row 29) = W1 at *
      generalize hY : wr.heap.size = Y at *
      clear hW1 hY
      obtain ⟨y, ey⟩ : ∃ y, y = x.act rs rh a := ⟨_, rfl⟩
      obtain ⟨ff, eff⟩ : ∃ ff, ff = x.frz rs rh a fz := ⟨_, rfl⟩
      have hd := law17_do P1.out.node HV.out (Nat.le_trans P1.out.node.low (Nat.le_of_lt (lt_of_heap P1.out.node.row))) a
      rw [← ey, ← eff] at hd
      have D := Lib.hid hd
      have EY := Lib.hid ey
      have OK := Lib.hid (P1.out.node.ok H64.out)
      clear hd ey eff
      go_wp2_with (first | ((with_reducible refine wpList_load_rowAs rfl 29 _ rfl (Y) ?_ 29 a.row (0, 0) _ 14 ?_ Try.underlying29 rfl (by kernel_rfl) ?_ ?_); exact rfl; exact KY1.out; exact rfl) | fail)
      (with_reducible refine D.out.mono ?_)
      rintro e w2 ⟨j2, rfl, hN⟩
      have P2 := Lib.hid (P1.out.did hN)
      have KY2 := Lib.hid ((hN.turned.block Y (lt_of_heap KY1.out) (fun e => by have := NY.out Y (.inl e.2); omega)).trans KY1.out)
      have hr := ref17_do P2.out.lt P2.out.lat OK.out HV.out st lo a
      rw [← EY.out] at hr
      have RD := Lib.hid hr
      clear hN hr P1 KY1 NY D
      go_wp2_with (first | ((with_reducible refine wpList_load_rowAs rfl 29 _ rfl (Y) ?_ 29 a.row (0, 0) _ 14 ?_ Try.underlying29 rfl (by kernel_rfl) ?_ ?_); exact rfl; exact KY2.out; exact rfl) | ((with_reducible refine wpList_load_rowAs rfl 40 _ rfl (X) ?_ 40 (x.val p cx q dx) (0, 0) _ 10 ?_ Try.underlying40 rfl (by kernel_rfl) ?_ ?_); exact rfl; exact P2.out.row; exact rfl) | ((with_reducible refine wpList_load_rowAs rfl 34 _ rfl (w.heap.size) ?_ 34 #[.int .i64 st, .int .i64 (rs : Nat), .int .i64 lo, .int .i64 (rh : Nat)] (0, 0) _ 4 ?_ Try.underlying34 rfl (by kernel_rfl) ?_ ?_); exact rfl; exact P2.out.cfg; exact rfl) | fail)
      (with_reducible refine RD.out.mono ?_)
      rintro e w3 ⟨p2, c2, q2, d2, t, rfl, _, hlt, hb⟩
      have P3 := Lib.hid (P2.out.call hb)
      have P4 := Lib.hid (P3.out.set hlt)
      have HVY2 : Hid (y.ver ≤ k + 1) := by have := NS.act_ver rs rh x a; have := HVK.out; show y.ver ≤ _; rw [EY.out]; omega
      clear hb hlt RD P2 KY2 HV HVK OK EY
      go_wp2_with ((with_reducible refine wpList_store_rowAs rfl 40 _ _ rfl (X) (y.val p2 c2 q2 d2) ?_ ?_ 40 (x.val p cx q dx) 10 ?_ (by kernel_rfl) rfl rfl (by simp [Value.oneCell']) ?_); exact rfl; exact rfl; exact P3.out.row)
      go_roundw
      case rel => exact ⟨k + 1, j2, ff, y, p2, q2, c2, d2, by omega, rfl, by go_num, HVY2.out, P4.out⟩
      case measure => simp [intOf]; omega
    · obtain rfl : k = N := by omega
      have P0 := Lib.hid hP
      have FR := Lib.hid (node_freeze hP.node)
      have HVK : Hid (x.ver ≤ 30) := by show x.ver ≤ 30; omega
      clear hP hv
      go_wp2_with fail
      (with_reducible refine FR.out.mono ?_)
      rintro e w6 ⟨rfl, hN⟩
      have P1 := Lib.hid (P0.out.did hN)
      have Z0 : Hid ((w6.alloc (.cells zeroLoad 40)).heap[w6.heap.size]? = some (.cells zeroLoad 40 (0, 0))) := heap_alloc_at _ _ _ rfl
      clear hN FR P0
      go_upto_region 15 with (first | ((with_reducible refine wpList_store_rowAs rfl 40 _ _ rfl (w6.heap.size) (x.val p cx q dx) ?_ ?_ 40 zeroLoad 10 ?_ (by kernel_rfl) rfl rfl (by simp [Value.oneCell']) ?_); exact rfl; exact rfl; exact Z0.out; (first | rw [row_1_0] | rw [row_2_0] | rw [row_2_1] | rw [row_3_0] | rw [row_3_1] | rw [row_3_2] | rw [row_4_0] | rw [row_4_1] | rw [row_4_2] | rw [row_4_3] | rw [row_5_0] | rw [row_5_1] | rw [row_5_2] | rw [row_5_3] | rw [row_5_4] | rw [row_6_0] | rw [row_6_1] | rw [row_6_2] | rw [row_6_3] | rw [row_6_4] | rw [row_6_5] | simp only [setRow_alloc_past, setRow_alloc_at, World.size_alloc, Nat.add_assoc, Nat.reduceAdd, Nat.lt_add_right_iff_pos, Nat.add_lt_add_iff_left, Nat.reduceLT, Nat.zero_lt_succ, Nat.lt_add_one])) | ((with_reducible refine wpList_load_rowAs rfl 40 _ rfl (X) ?_ 40 (x.val p cx q dx) (0, 0) _ 10 ?_ Try.underlying40 rfl (by kernel_rfl) ?_ ?_); exact rfl; exact P1.out.row; exact rfl) | fail)
      have P2 := Lib.hid (Pf.start P1.out)
      clear P1 Z0
      generalize hW7 : w6.alloc (.cells (x.val p cx q dx) 40) = w7 at *
      generalize hX2 : w6.heap.size = X2 at *
      clear hW7 hX2
      obtain ⟨v0, hv0⟩ : ∃ v0, v0 = x.ver := ⟨_, rfl⟩
      obtain ⟨jf, hjf⟩ : ∃ jf, jf = j := ⟨_, rfl⟩
      obtain ⟨xf, hxf⟩ : ∃ xf, xf = x := ⟨_, rfl⟩
      obtain ⟨pf, cf, qf, df, hpf⟩ : ∃ pf cf qf df, pf = p ∧ cf = cx ∧ qf = q ∧ df = dx := ⟨_, _, _, _, rfl, rfl, rfl, rfl⟩
      have P3 : Hid (Pf w w7 #[.int .i64 st, .int .i64 (rs : Nat), .int .i64 lo, .int .i64 (rh : Nat)] X X2 B rs rh jf xf pf cf qf df j true x x p cx q dx) := by
        obtain ⟨rfl, rfl, rfl, rfl⟩ := hpf
        rw [hjf, hxf]
        exact P2.out
      have HJ := Lib.hid hjf
      clear P2 hv0 v0 hjf hxf hpf
      go_wp2
      go_loopw [7, 59] (fun n i wr => ∃ (k : Nat) (j : NI) (fz : Bool) (x : NS) (p q : Option Addr) (cx dx : Nat), k ≤ M ∧ n = j.ptr ∧ i = .int .i64 k ∧ x.ver ≤ 30 + k ∧ Pf w wr #[.int .i64 st, .int .i64 (rs : Nat), .int .i64 lo, .int .i64 (rh : Nat)] X X2 B rs rh jf xf pf cf qf df j fz x x p cx q dx) (fun _ i _ => M - (intOf i).toNat)
      case atStart => exact ⟨0, j, true, x, p, q, cx, dx, by omega, rfl, rfl, HVK.out, P3.out⟩
      case round =>
        clear P3 HVK
        rw [← HJ.out]
        clear HJ
        obtain ⟨k, j, fz, x, p, q, cx, dx, hk, rfl, rfl, hv, hP⟩ := hrel
        by_cases hkN : k < M
        · obtain ⟨b, off, rfl, hb, hcell⟩ := HS2.out.cells k (by rw [HL2.out]; exact hkN)
          obtain ⟨a, ea⟩ : ∃ a, a = (l2[k]?.getD default : Nac) := ⟨_, rfl⟩
          rw [← ea] at hcell
          have RA := Lib.hid (Nac.rangeAt hcell hb hP.pl.below)
          have P0 := Lib.hid hP
          have HV : Hid (x.ver ≤ 100000) := by show x.ver ≤ 100000; omega
          have HVK := Lib.hid hv
          have Z0 : Hid ((wr.alloc (.cells #[.int .i64 0, .int .i64 0, .int .i64 0, .int .i64 0, .int .i64 0, .int .i64 0, .int .i64 0, .int .i64 0, .int .i64 0, .int .i64 0, .int .i64 0, .int .i64 0, .int .i64 0, .int .i64 0] 29)).heap[wr.heap.size]? = some (.cells #[.int .i64 0, .int .i64 0, .int .i64 0, .int .i64 0, .int .i64 0, .int .i64 0, .int .i64 0, .int .i64 0, .int .i64 0, .int .i64 0, .int .i64 0, .int .i64 0, .int .i64 0, .int .i64 0] 29 (0, 0))) := heap_alloc_at _ _ _ rfl
          clear hP hcell ea hb hv
          go_upto_region 18 with (first | ((with_reducible refine wpList_store_rowAs rfl 29 _ _ rfl (wr.heap.size) a.row ?_ ?_ 29 #[.int .i64 0, .int .i64 0, .int .i64 0, .int .i64 0, .int .i64 0, .int .i64 0, .int .i64 0, .int .i64 0, .int .i64 0, .int .i64 0, .int .i64 0, .int .i64 0, .int .i64 0, .int .i64 0] 14 ?_ (by kernel_rfl) rfl rfl (by simp [Value.oneCell']) ?_); exact rfl; exact rfl; exact Z0.out; (first | rw [row_1_0] | rw [row_2_0] | rw [row_2_1] | rw [row_3_0] | rw [row_3_1] | rw [row_3_2] | rw [row_4_0] | rw [row_4_1] | rw [row_4_2] | rw [row_4_3] | rw [row_5_0] | rw [row_5_1] | rw [row_5_2] | rw [row_5_3] | rw [row_5_4] | rw [row_6_0] | rw [row_6_1] | rw [row_6_2] | rw [row_6_3] | rw [row_6_4] | rw [row_6_5] | simp only [setRow_alloc_past, setRow_alloc_at, World.size_alloc, Nat.add_assoc, Nat.reduceAdd, Nat.lt_add_right_iff_pos, Nat.add_lt_add_iff_left, Nat.reduceLT, Nat.zero_lt_succ, Nat.lt_add_one])) | ((with_reducible refine wpList_load_midA rfl 29 _ rfl b (off + k * 14) ?_ a.row _ RA.out Try.underlying29 rfl (actSize a) ?_); exact rfl) | fail)
          have P1 := Lib.hid (P0.out.call (below1 wr (.cells a.row 29)))
          have KY1 : Hid ((wr.alloc (.cells a.row 29)).heap[wr.heap.size]? = some (.cells a.row 29 (0, 0))) := heap_alloc_at _ _ _ rfl
          have NY := Lib.hid P0.out.pl.lt
          clear P0 RA Z0
          generalize hW1 : wr.alloc (.cells a.row 29) = W1 at *
          generalize hY : wr.heap.size = Y at *
          clear hW1 hY
          obtain ⟨y, ey⟩ : ∃ y, y = x.act rs rh a := ⟨_, rfl⟩
          obtain ⟨ff, eff⟩ : ∃ ff, ff = x.frz rs rh a fz := ⟨_, rfl⟩
          have hd := law17_do P1.out.pl.node HV.out (Nat.le_trans P1.out.pl.node.low (Nat.le_of_lt (lt_of_heap P1.out.pl.node.row))) a
          rw [← ey, ← eff] at hd
          have D := Lib.hid hd
          have EY := Lib.hid ey
          have OK := Lib.hid (P1.out.pl.node.ok H64.out)
          clear hd ey eff
          go_wp2_with (first | ((with_reducible refine wpList_load_rowAs rfl 29 _ rfl (Y) ?_ 29 a.row (0, 0) _ 14 ?_ Try.underlying29 rfl (by kernel_rfl) ?_ ?_); exact rfl; exact KY1.out; exact rfl) | fail)
          (with_reducible refine D.out.mono ?_)
          rintro e w2 ⟨j2, rfl, hN⟩
          have P2 := Lib.hid (P1.out.did hN)
          have KY2 := Lib.hid ((hN.turned.block Y (lt_of_heap KY1.out) (fun e => by have := NY.out Y (.inl e.2); omega)).trans KY1.out)
          have hr := ref17_do P2.out.pl.lt P2.out.pl.lat OK.out HV.out st lo a
          rw [← EY.out] at hr
          have RD := Lib.hid hr
          clear hN hr P1 KY1 NY D
          go_wp2_with (first | ((with_reducible refine wpList_load_rowAs rfl 29 _ rfl (Y) ?_ 29 a.row (0, 0) _ 14 ?_ Try.underlying29 rfl (by kernel_rfl) ?_ ?_); exact rfl; exact KY2.out; exact rfl) | ((with_reducible refine wpList_load_rowAs rfl 40 _ rfl (X2) ?_ 40 (x.val p cx q dx) (0, 0) _ 10 ?_ Try.underlying40 rfl (by kernel_rfl) ?_ ?_); exact rfl; exact P2.out.pl.row; exact rfl) | ((with_reducible refine wpList_load_rowAs rfl 34 _ rfl (w.heap.size) ?_ 34 #[.int .i64 st, .int .i64 (rs : Nat), .int .i64 lo, .int .i64 (rh : Nat)] (0, 0) _ 4 ?_ Try.underlying34 rfl (by kernel_rfl) ?_ ?_); exact rfl; exact P2.out.pl.cfg; exact rfl) | fail)
          (with_reducible refine RD.out.mono ?_)
          rintro e w3 ⟨p2, c2, q2, d2, t, rfl, _, hlt, hb⟩
          have P3 := Lib.hid (P2.out.call hb)
          have P4 := Lib.hid (P3.out.set hlt)
          have HVY2 : Hid (y.ver ≤ 30 + (k + 1)) := by have := NS.act_ver rs rh x a; have := HVK.out; show y.ver ≤ _; rw [EY.out]; omega
          clear hb hlt RD P2 KY2 HV HVK OK EY
          go_wp2_with ((with_reducible refine wpList_store_rowAs rfl 40 _ _ rfl (X2) (y.val p2 c2 q2 d2) ?_ ?_ 40 (x.val p cx q dx) 10 ?_ (by kernel_rfl) rfl rfl (by simp [Value.oneCell']) ?_); exact rfl; exact rfl; exact P3.out.pl.row)
          go_roundw
          case rel => exact ⟨k + 1, j2, ff, y, p2, q2, c2, d2, by omega, rfl, by go_num, HVY2.out, P4.out⟩
          case measure => simp [intOf]; omega
        · obtain rfl : k = M := by omega
          have P0 := Lib.hid hP
          have F1 := Lib.hid (node_frozen hP.node0)
          have T1 := Lib.hid (told17 hP.node0 H64.out hP.lat0)
          clear hP hv
          go_wp2_with (first | ((with_reducible refine F1.out.mono ?_); rintro e w8 ⟨rfl, rfl⟩) | ((with_reducible refine wpList_load_rowG ?_ 40 _ rfl (X) ?_ 40 (xf.val pf cf qf df) (0, 0) _ 10 ?_ Try.underlying40 rfl (by kernel_rfl) ?_ ?_); kernel_rfl; exact rfl; exact P0.out.row0; exact rfl) | fail)
          (with_reducible refine T1.out.mono ?_)
          rintro e w8 ⟨rfl, hb⟩
          have P1 := Lib.hid (P0.out.call hb)
          have T2 := Lib.hid (told17 P1.out.pl.node H64.out P1.out.pl.lat)
          clear hb T1 F1 P0
          go_wp2_with (first | ((with_reducible refine wpList_load_rowG ?_ 40 _ rfl (X2) ?_ 40 (x.val p cx q dx) (0, 0) _ 10 ?_ Try.underlying40 rfl (by kernel_rfl) ?_ ?_); kernel_rfl; exact rfl; exact P1.out.pl.row; exact rfl) | fail)
          (with_reducible refine T2.out.mono ?_)
          rintro e w9 ⟨rfl, hb⟩
          have HB := Lib.hid (P1.out.call hb).pl.below
          clear hb T2 P1
          go_wp2
          go_ret
          exact ⟨rfl, HB.out⟩
theorem nodeFreezes_walk (c : Cfg) (hc : c.In) (ps qs : Option Addr) (cps cqs : Nat) (l l2 : List Nac) (hl : l.length ≤ 9223372036854775807) (hl2 : l2.length ≤ 9223372036854775807) (w : World) (hs : Nacs w ps l) (hs2 : Nacs w qs l2) : Calls Try.prog 5 #[.agg #[.int .i64 c.st, .int .i64 c.sa, .int .i64 c.lo, .int .i64 c.hi], .slice ps l.length cps, .slice qs l2.length cqs] w fun e w' => e = .returned (.bool true) ∧ Below w.heap.size w w' := by
  by_cases hf : c.Fine
  · obtain ⟨st, sa, lo, hi⟩ := c
    obtain ⟨rs, rfl⟩ : ∃ rs : Nat, sa = rs := ⟨sa.toNat, by have := hf.sa.1; simp only at this; omega⟩
    obtain ⟨rh, rfl⟩ : ∃ rh : Nat, hi = rh := ⟨hi.toNat, by have := hf.hi.1; simp only at this; omega⟩
    exact nodeFreezes_yes st lo rs rh hc hf ps qs l.length l2.length cps cqs l l2 rfl rfl w hs hs2 hl hl2
  · exact nodeFreezes_no c hc hf ps qs l.length l2.length cps cqs w
end Go.Proofs.Ytapgcbjlgekpeaa
