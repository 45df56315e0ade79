/- Layer 55: the law, walked: rows in one. -/
import Derived.Test.YtldhbgefpfmkmaaJLoop3
namespace Go.Proofs.Ytldhbgefpfmkmaa
open Go.ChangeShapes Go.WideShapes Go.ChangeAt Go.RowKit

set_option maxRecDepth 100000 in
theorem law55_usual (w : World) : Calls Try.prog 91 #[] w fun e w' => e = .returned (.agg #[.int .i64 1, .int .i64 10, .int .i64 100, .int .i64 100, .int .i64 5, .int .i64 3]) ∧ Below w.heap.size w w' := by
  go_enter Try.func91, Try.ntmps91
  go_wp2_with ((with_reducible refine wpList_store_rowAs rfl 54 _ _ rfl (w.heap.size) #[.int .i64 1, .int .i64 10, .int .i64 100, .int .i64 100, .int .i64 5, .int .i64 3] ?_ ?_ 54 #[.int .i64 0, .int .i64 0, .int .i64 0, .int .i64 0, .int .i64 0, .int .i64 0] 6 ?_ (by kernel_rfl) rfl rfl (by simp [Value.oneCell']) ?_); exact rfl; exact rfl; exact (by first | (with_reducible exact heap_1_0 _ _) | (with_reducible exact heap_2_0 _ _ _) | (with_reducible exact heap_2_1 _ _ _) | (with_reducible exact heap_3_0 _ _ _ _) | (with_reducible exact heap_3_1 _ _ _ _) | (with_reducible exact heap_3_2 _ _ _ _) | (with_reducible exact heap_4_0 _ _ _ _ _) | (with_reducible exact heap_4_1 _ _ _ _ _) | (with_reducible exact heap_4_2 _ _ _ _ _) | (with_reducible exact heap_4_3 _ _ _ _ _) | (with_reducible exact heap_5_0 _ _ _ _ _ _) | (with_reducible exact heap_5_1 _ _ _ _ _ _) | (with_reducible exact heap_5_2 _ _ _ _ _ _) | (with_reducible exact heap_5_3 _ _ _ _ _ _) | (with_reducible exact heap_5_4 _ _ _ _ _ _) | (with_reducible exact heap_6_0 _ _ _ _ _ _ _) | (with_reducible exact heap_6_1 _ _ _ _ _ _ _) | (with_reducible exact heap_6_2 _ _ _ _ _ _ _) | (with_reducible exact heap_6_3 _ _ _ _ _ _ _) | (with_reducible exact heap_6_4 _ _ _ _ _ _ _) | (with_reducible exact heap_6_5 _ _ _ _ _ _ _) | simp only [heap_alloc_past, heap_alloc_at, World.size_alloc, Nat.add_assoc, Nat.reduceAdd, Nat.lt_add_right_iff_pos, Nat.add_lt_add_iff_left, Nat.reduceLT, Nat.zero_lt_succ, Nat.lt_add_one]); (first | rw [row_1_0] | rw [row_2_0] | rw [row_2_1] | rw [row_3_0] | rw [row_3_1] | rw [row_3_2] | rw [row_4_0] | rw [row_4_1] | rw [row_4_2] | rw [row_4_3] | rw [row_5_0] | rw [row_5_1] | rw [row_5_2] | rw [row_5_3] | rw [row_5_4] | rw [row_6_0] | rw [row_6_1] | rw [row_6_2] | rw [row_6_3] | rw [row_6_4] | rw [row_6_5] | simp only [setRow_alloc_past, setRow_alloc_at, World.size_alloc, Nat.add_assoc, Nat.reduceAdd, Nat.lt_add_right_iff_pos, Nat.add_lt_add_iff_left, Nat.reduceLT, Nat.zero_lt_succ, Nat.lt_add_one]))
  exact bodyPost_ret (results_cell_row rfl _ _ w.heap.size 54 #[.int .i64 1, .int .i64 10, .int .i64 100, .int .i64 100, .int .i64 5, .int .i64 3] (0, 0) _ rfl (heap_alloc_at _ _ _ rfl) Try.underlying54 rfl polInfo) rfl ⟨rfl, below1 _ _⟩

theorem awake55_rows : (LS.at ⟨1, 10, 100, 100, 5, 3⟩ (fun i => Shp.sum [⟨1, 250, 250, 1, 0⟩] i) 2).rows = [⟨0, 250, 1, 100, 150⟩, ⟨1, 250, 3, 300, 100⟩] := by decide +kernel
theorem awake55_err : Lp.err ⟨1, 10, 100, 100, 5, 3⟩ ((2 : Nat) : Int) [⟨1, 250, 250, 1, 0⟩] = 0 := by decide +kernel

set_option maxHeartbeats 1000000 in
set_option maxRecDepth 100000 in
theorem awake55 (w : World) : Calls Try.prog 50 #[] w fun e w' => e = .returned (.bool true) ∧ Below w.heap.size w w' := by
  have FU := Lib.hid law55_usual
  have F1 : Hid (∀ W : World, Calls Try.prog 52 #[.agg #[.int .i64 1, .int .i64 10, .int .i64 100, .int .i64 100, .int .i64 5, .int .i64 3], .int .i64 2, .slice (some ⟨W.heap.size, 0, none⟩) 1 1] (W.alloc (.cells #[.int .i64 1, .int .i64 250, .int .i64 250, .int .i64 1, .int .i64 0] 168)) fun e w' => ∃ g cap, e = .returned (.tuple #[.slice (some ⟨g, 0, none⟩) 2 cap, .int .i64 0]) ∧ w'.cell? ⟨g, 4, none⟩ = some (.int .i64 150) ∧ w'.cell? ⟨g, 7, none⟩ = some (.int .i64 3) ∧ w'.cell? ⟨g, 8, none⟩ = some (.int .i64 300) ∧ Below W.heap.size W w') := by
    intro W
    have hA : Advs (W.alloc (.cells #[.int .i64 1, .int .i64 250, .int .i64 250, .int .i64 1, .int .i64 0] 168)) (some ⟨W.heap.size, 0, none⟩) [⟨1, 250, 250, 1, 0⟩] := by
      refine .inr ⟨W.heap.size, 0, rfl, by simp, fun j hj => ?_⟩
      have hj5 : j < 5 := hj
      rw [cell_of_row _ _ _ _ _ _ (heap_alloc_at W _ _ rfl)]
      have : j = 0 ∨ j = 1 ∨ j = 2 ∨ j = 3 ∨ j = 4 := by omega
      rcases this with rfl | rfl | rfl | rfl | rfl <;> rfl
    have h := loop_run_good ⟨1, 10, 100, 100, 5, 3⟩ ⟨by simp [I64], by simp [I64], by simp [I64], by simp [I64], by simp [I64], by simp [I64]⟩ 2 (by omega) (some ⟨W.heap.size, 0, none⟩) 1 1 [⟨1, 250, 250, 1, 0⟩] (by intro a ha; simp at ha; subst ha; exact ⟨by simp [I64], by simp [I64], by simp [I64], by simp [I64], by simp [I64]⟩) rfl (by omega) awake55_err _ hA
    rw [awake55_rows] at h
    refine h.mono ?_
    rintro e w' ⟨u, rfl, ho, hb⟩
    obtain ⟨g, cap, rfl, _, _, _, hc, _⟩ := ho.some_of (by omega)
    exact ⟨g, cap, rfl, hc 4 _ rfl, hc 7 _ rfl, hc 8 _ rfl, (below1 W _).trans (hb.mono (below1 W _).size)⟩
  go_enter Try.func50, Try.ntmps50
  go_wp2_with fail
  (with_reducible refine (FU.out _).mono ?_)
  rintro e w1 ⟨rfl, hb1⟩
  have B1 := Lib.hid hb1
  clear hb1
  go_wp2_with fail
  (with_reducible refine (F1.out _).mono ?_)
  rintro e w2 ⟨g, cap, rfl, c4, c7, c8, hb2⟩
  have B2 := Lib.hid (B1.out.trans (hb2.mono B1.out.size))
  clear hb2
  go_wp2
  go_ret
  exact ⟨rfl, B2.out⟩

theorem row_equal_yes (a : Adv) (w : World) : (Op.equalIn 10000 109 (.agg #[.int .i64 a.tick, .int .i64 a.load, .int .i64 a.want, .int .i64 a.repl, .int .i64 a.why]) (.agg #[.int .i64 a.tick, .int .i64 a.load, .int .i64 a.want, .int .i64 a.repl, .int .i64 a.why])).run Try.prog w = .ok true w := by
  simp [go_sem]

theorem max3_runs {P : Program} (x y m : Int) (hx : 0 ≤ x) (hm : (x < y ∧ m = y) ∨ (¬ x < y ∧ m = x)) (w : World) (ts : Array TypeId) (t : TypeId) : (Builtin.max_ ts t #[.int .i64 x, .int .i64 y, .int .i64 0]).run P w = .ok (.int .i64 m) w := by
  have h0 : ∀ z : Int, 0 ≤ z → (if (0 : Int) > z then (0 : Int) else z) = z := fun z h => if_neg (by omega)
  rcases hm with ⟨h, rfl⟩ | ⟨h, rfl⟩
  · simp [Builtin.max_, Builtin.max2, List.foldlM, h, h0 m (by omega)]
  · simp [Builtin.max_, Builtin.max2, List.foldlM, h, h0 m hx]

set_option maxHeartbeats 4000000 in
set_option maxRecDepth 100000 in
theorem loopTotals_walk (q : Option Addr) (cap : Nat) (l : List Adv) (hl : ∀ a ∈ l, a.In) (hb : l.length ≤ 9223372036854775807) (w : World) (hs : Advs w q l) :
    Calls Try.prog 13 #[.slice q l.length cap] w fun e w' => e = .returned (.bool true) ∧ Below w.heap.size w w' := by
  obtain ⟨n, en⟩ : ∃ n, n = l.length := ⟨_, rfl⟩
  by_cases h1 : 60 < n
  · have d1 : decide ((60 : Int) < n) = true := decide_eq_true (by omega)
    rw [← en] at hb ⊢
    clear en hs hl
    go_enter Try.func13, Try.ntmps13
    go_wp2_with fail
    (with_reducible refine (awake55 _).mono ?_)
    rintro e w1 ⟨rfl, hb1⟩
    have HB := Lib.hid hb1
    clear hb1
    go_wp2
    go_ret
    exact ⟨rfl, HB.out⟩
  have d1 : decide ((60 : Int) < n) = false := decide_eq_false (by omega)
  have hn60 : n ≤ 60 := by omega
  rw [← en] at hb ⊢
  have HS := Lib.hid hs
  have EN := Lib.hid en
  have HIN := Lib.hid hl
  have HT := Lib.hid (fun k => show Lp.tot l (k + 1) = ⟨(l[k]?.getD default).tick, Sat.clamp ((Lp.tot l k).load + (l[k]?.getD default).load), max (Lp.tot l k).want (l[k]?.getD default).want, Sat.clamp ((Lp.tot l k).repl + (l[k]?.getD default).repl), (l[k]?.getD default).why⟩ from rfl)
  have HTI := Lib.hid (Lp.tot_in l hl)
  have T0 : Hid (Lp.tot l 0 = ⟨0, 0, 0, 0, 0⟩) := rfl
  have HR := Lib.hid (fun k => show Lp.streak l (k + 1) = if (l[k]?.getD default).why = 0 then 0 else Lp.streak l k + 1 from rfl)
  have HL := Lib.hid (fun k => show Lp.long l (k + 1) = max (Lp.long l k) (Lp.streak l (k + 1)) from rfl)
  have HRI := Lib.hid (Lp.streak_in l)
  have HLI := Lib.hid (Lp.long_in l)
  have R0 : Hid (Lp.streak l 0 = 0) := rfl
  have L0 : Hid (Lp.long l 0 = 0) := rfl
  have PT := Lib.hid (fun (p : Option Addr) (c : Nat) (W : World) h => loop_total p c n l en.symm hl hb W h)
  have PL := Lib.hid (fun (p : Option Addr) (c : Nat) (W : World) h => loop_longest p c n l en.symm hb W h)
  have HTK : Hid (∀ k, k < l.length → advVals (l.take (k + 1)) = advVals (l.take k) ++ [.int .i64 (l[k]?.getD default).tick, .int .i64 (l[k]?.getD default).load, .int .i64 (l[k]?.getD default).want, .int .i64 (l[k]?.getD default).repl, .int .i64 (l[k]?.getD default).why]) := by
    intro k hk
    rw [List.take_succ_eq_append_getElem hk, advVals_append, List.getElem?_eq_getElem hk]
    rfl
  have HTF : Hid (l.take n = l) := by show _ = _; rw [en]; exact List.take_length
  obtain ⟨tt, ett⟩ : ∃ f, f = Lp.tot l := ⟨_, rfl⟩
  obtain ⟨rn, ern⟩ : ∃ f, f = Lp.streak l := ⟨_, rfl⟩
  obtain ⟨lg, elg⟩ : ∃ f, f = Lp.long l := ⟨_, rfl⟩
  simp only [← ett] at HT HTI T0 PT
  simp only [← ern] at HR HL HRI R0
  simp only [← elg] at HL HLI L0 PL
  clear ett ern elg en hs hl h1
  go_enter Try.func13, Try.ntmps13
  go_wp2_with fail
  (with_reducible refine (awake55 _).mono ?_)
  rintro e w1 ⟨rfl, hb1⟩
  obtain ⟨X, eX⟩ : ∃ X, w1.heap.size = X := ⟨_, rfl⟩
  have M1 : Hid (Mem w (w1.alloc (.cells #[.int .i64 0, .int .i64 0, .int .i64 0, .int .i64 0, .int .i64 0] 109)) [(X, .cells #[.int .i64 0, .int .i64 0, .int .i64 0, .int .i64 0, .int .i64 0] 109)]) := ((Mem.start w).call hb1).allocAs X _ eX
  have hXw : w.heap.size ≤ X := by have := hb1.size; omega
  have HX := Lib.hid eX
  clear hb1
  go_wp2

  clear eX
  go_loopw [3, 5, 17] (fun a g i wr => ∃ (k : Nat) (u : Value), k ≤ n ∧ i = .int .i64 (k : Nat) ∧ g = .int .i64 (lg k) ∧ a = u ∧ Owns wr (X + 1) 5 u k (advVals (l.take k)) ∧ Mem w wr [(X, .cells #[.int .i64 (tt k).tick, .int .i64 (tt k).load, .int .i64 (tt k).want, .int .i64 (tt k).repl, .int .i64 (tt k).why] 109)]) (fun _ _ i _ => n - (intOf i).toNat)
  case atStart => exact ⟨0, _, by omega, rfl, by rw [L0.out], rfl, owns_nil _ _ _, by rw [T0.out]; exact M1.out⟩
  case round =>
    obtain ⟨k, u, hk, rfl, rfl, rfl, hO, hM⟩ := hrel
    clear M1 T0 L0
    by_cases hlt : k < n
    · have hkl : k < l.length := by have := EN.out; omega
      obtain ⟨bq, off, rfl, hbw, c0, c1, c2, c3, c4⟩ := (HS.out.below hM.below).cells k hkl
      have hin : (l[k]?.getD default).In := by rw [List.getElem?_eq_getElem hkl]; exact HIN.out _ (List.getElem_mem _)
      have ht := HT.out k
      have hti := HTI.out k (by omega)
      have htk := HTK.out k hkl
      obtain ⟨⟨x0, x1, x2, x3, x4⟩, ex⟩ : ∃ x, x = l[k]?.getD default := ⟨_, rfl⟩
      obtain ⟨⟨t0, t1, t2, t3, t4⟩, et⟩ : ∃ x, x = tt k := ⟨_, rfl⟩
      rw [← ex] at c0 c1 c2 c3 c4 ht hin htk
      rw [← et] at ht hti hM
      obtain ⟨f2, ef2⟩ : ∃ x, x = tt (k + 1) := ⟨_, rfl⟩
      rw [← ef2] at ht
      simp only at c0 c1 c2 c3 c4 ht hM htk
      have HA := Lib.hid (ref_add t1 x1 hti.1.2.1 hin.2.1)
      have HC := Lib.hid (ref_add t3 x3 hti.1.2.2.2.1 hin.2.2.2.1)
      have ht2 : 0 ≤ t2 := hti.2
      obtain ⟨a1, ea1⟩ : ∃ a, a = Sat.clamp (t1 + x1) := ⟨_, rfl⟩
      obtain ⟨a2, ea2⟩ : ∃ a, a = max t2 x2 := ⟨_, rfl⟩
      obtain ⟨a3, ea3⟩ : ∃ a, a = Sat.clamp (t3 + x3) := ⟨_, rfl⟩
      rw [← ea1] at HA ht
      rw [← ea3] at HC ht
      rw [← ea2] at ht
      have HMX := Lib.hid ea2
      have HF2 := Lib.hid ht
      have EF2 := Lib.hid ef2
      have HTK2 := Lib.hid htk
      have M1 := Lib.hid (hM.alloc (.cells #[.int .i64 x0, .int .i64 x1, .int .i64 x2, .int .i64 x3, .int .i64 x4] 114))
      have O1 := Lib.hid (hO.below (below1 wr (.cells #[.int .i64 x0, .int .i64 x1, .int .i64 x2, .int .i64 x3, .int .i64 x4] 114)))
      have hkn : (k : Int) < n := by omega
      have hXlt : X < wr.heap.size := hM.lt (i := 0) rfl
      have HLT := hO.lt
      have hBz : X + 1 ≤ (wr.alloc (.cells #[.int .i64 x0, .int .i64 x1, .int .i64 x2, .int .i64 x3, .int .i64 x4] 114)).heap.size := by simp; omega
      have K1 := Lib.hid (M1.out.heap 1 rfl)
      obtain ⟨pu, cu, eu, _⟩ := hO.sl
      subst eu
      clear ht ef2 ea1 ea2 ea3 ex et hti hin hM htk hO
      have hmxl : k + 1 ≤ maxLen := by unfold maxLen; omega
      have hbyt : (k + 1) * 40 ≤ 140737488355328 := by omega
      obtain ⟨W1, hW1⟩ : ∃ W, W = wr.alloc (.cells #[.int .i64 x0, .int .i64 x1, .int .i64 x2, .int .i64 x3, .int .i64 x4] 114) := ⟨_, rfl⟩
      go_upto_region 11 with fail
      rw [← hW1] at M1 O1 K1 hBz ⊢
      obtain ⟨Z, hZ⟩ : ∃ Z, wr.heap.size = Z := ⟨_, rfl⟩
      have hZl : Z < W1.heap.size := by rw [hW1]; simp; omega
      rw [hZ] at M1 K1 HLT hXlt ⊢
      clear hW1 hZ c0 c1 c2 c3 c4 hbw
      go_wp2_with (first | ((with_reducible refine wpList_load_rowAs rfl 114 _ rfl (Z) ?_ 114 #[.int .i64 x0, .int .i64 x1, .int .i64 x2, .int .i64 x3, .int .i64 x4] (0, 0) _ 5 ?_ Try.underlying114 rfl (by kernel_rfl) ?_ ?_); exact rfl; exact K1.out; exact rfl) | (at_builtin; refine wpList_append_new2 rfl _ _ 100 rfl _ _ 109 rfl (X + 1) 109 (.agg #[.int .i64 0, .int .i64 0, .int .i64 0, .int .i64 0, .int .i64 0]) 5 40 Try.underlying100 rowInfo rfl (by decide) (.slice pu k cu) k (advVals (l.take k)) rfl O1.out rfl rfl (advVals_one1 ⟨x0, x1, x2, x3, x4⟩) hmxl hbyt hBz ?_))
      intro u8 x8 ha8 hg8 hb8 hw8
      have O8 : Hid (Owns x8 (X + 1) 5 u8 (k + 1) (advVals (l.take (k + 1)))) := by show Owns _ _ _ _ _ _; rw [HTK2.out]; exact ha8
      have hT8 : Turned (fun y => (Value.slice pu k cu).ownBlock = some y) W1 x8 := Turned.refl.grown hg8 (fun y hy _ => hy)
      have M8 := M1.out.turnedF hT8 (fun y hy => ⟨by have := (HLT y hy).1; omega, fun i o hi => by have := HLT y hy; rcases i with _ | _ | i <;> simp at hi <;> omega⟩)
      have M8 : Hid (Mem w x8 [(X, .cells #[.int .i64 t0, .int .i64 t1, .int .i64 t2, .int .i64 t3, .int .i64 t4] 109), (Z, .cells #[.int .i64 x0, .int .i64 x1, .int .i64 x2, .int .i64 x3, .int .i64 x4] 114)]) := M8
      obtain ⟨pv, cv, ev, _⟩ := O8.out.sl
      subst ev
      clear ha8 hg8 hb8 hw8 hT8 O1 M1 K1 HLT hXlt hBz hmxl hbyt hZl
      have k0 := M8.out.cell 1 0 rfl rfl
      have d0 := M8.out.cell 0 0 rfl rfl
      have z0 := M8.out.free 0 0 rfl
      have N1 := Lib.hid (M8.out.setCell 0 0 (.int .i64 x0) rfl)
      have P1 := Lib.hid (O8.out.setOther (b := X) (j := 0) (.int .i64 x0) (fun e => by have := (O8.out.lt _ e).1; omega))
      have k4 := N1.out.cell 1 4 rfl rfl
      have d4 := N1.out.cell 0 4 rfl rfl
      have z4 := N1.out.free 0 4 rfl
      have N2 := Lib.hid (N1.out.setCell 0 4 (.int .i64 x4) rfl)
      have P2 := Lib.hid (P1.out.setOther (b := X) (j := 4) (.int .i64 x4) (fun e => by have := (P1.out.lt _ e).1; omega))
      have k1 := N2.out.cell 1 1 rfl rfl
      have d1 := N2.out.cell 0 1 rfl rfl
      have z1 := N2.out.free 0 1 rfl
      have N3 := Lib.hid (N2.out.setCell 0 1 (.int .i64 a1) rfl)
      have P3 := Lib.hid (P2.out.setOther (b := X) (j := 1) (.int .i64 a1) (fun e => by have := (P2.out.lt _ e).1; omega))
      have k3 := N3.out.cell 1 3 rfl rfl
      have d3 := N3.out.cell 0 3 rfl rfl
      have z3 := N3.out.free 0 3 rfl
      have N4 := Lib.hid (N3.out.setCell 0 3 (.int .i64 a3) rfl)
      have P4 := Lib.hid (P3.out.setOther (b := X) (j := 3) (.int .i64 a3) (fun e => by have := (P3.out.lt _ e).1; omega))
      have k2 := N4.out.cell 1 2 rfl rfl
      have d2 := N4.out.cell 0 2 rfl rfl
      have z2 := N4.out.free 0 2 rfl
      have N5 := Lib.hid (N4.out.setCell 0 2 (.int .i64 a2) rfl)
      have P5 := Lib.hid (P4.out.setOther (b := X) (j := 2) (.int .i64 a2) (fun e => by have := (P4.out.lt _ e).1; omega))
      clear M8 N1 P1 N2 P2 N3 P3 N4 P4 O8
      have hfin : ∀ (W : World), Mem w W [(X, .cells #[.int .i64 x0, .int .i64 a1, .int .i64 a2, .int .i64 a3, .int .i64 x4] 109), (Z, .cells #[.int .i64 x0, .int .i64 x1, .int .i64 x2, .int .i64 x3, .int .i64 x4] 114)] → Mem w W [(X, .cells #[.int .i64 (tt (k + 1)).tick, .int .i64 (tt (k + 1)).load, .int .i64 (tt (k + 1)).want, .int .i64 (tt (k + 1)).repl, .int .i64 (tt (k + 1)).why] 109)] := by
        intro W h
        rw [← EF2.out, HF2.out]
        exact h.init (cs := [_])
      have HFIN := Lib.hid hfin
      clear hfin
      have N5 : Hid (Mem w _ [(X, .cells #[.int .i64 x0, .int .i64 a1, .int .i64 a2, .int .i64 a3, .int .i64 x4] 109), (Z, .cells #[.int .i64 x0, .int .i64 x1, .int .i64 x2, .int .i64 x3, .int .i64 x4] 114)]) := N5
      have hmx : (t2 < x2 ∧ a2 = x2) ∨ (¬ t2 < x2 ∧ a2 = t2) := by have := HMX.out; omega
      have hmx3 := max3_runs (P := Try.prog) t2 x2 a2 ht2 hmx
      clear hmx HMX ht2
      go_wp2_with (first | ((with_reducible refine (HA.out _).mono ?_); rintro e w3 ⟨rfl, rfl⟩) | ((with_reducible refine (HC.out _).mono ?_); rintro e w3 ⟨rfl, rfl⟩))
      go_loopw [8, 9] (fun nn kk wi => ∃ m : Nat, m ≤ k + 1 ∧ kk = .int .i64 ((m : Int) - 1) ∧ nn = .int .i64 (rn (k + 1) - rn m) ∧ 0 ≤ rn (k + 1) - rn m ∧ Mem w wi [(X, .cells #[.int .i64 (tt (k + 1)).tick, .int .i64 (tt (k + 1)).load, .int .i64 (tt (k + 1)).want, .int .i64 (tt (k + 1)).repl, .int .i64 (tt (k + 1)).why] 109)] ∧ Owns wi (X + 1) 5 (.slice pv (k + 1) cv) (k + 1) (advVals (l.take (k + 1)))) (fun _ kk _ => (intOf kk + 1).toNat)
      case atStart => exact ⟨k + 1, by omega, by go_num, by go_num, by omega, HFIN.out _ N5.out, P5.out⟩
      case round =>
        obtain ⟨m, hm, rfl, rfl, h0, hMi, hOi⟩ := hrel
        have hri := HRI.out (k + 1)
        have hrm := HRI.out m
        have hlg := HLI.out k
        have hl1 := HL.out k
        clear N5 P5 k0 d0 z0 k1 z1 k2 d2 z2 k3 d3 z3 k4 d4 z4 HFIN
        have hend : ∀ (v : Int), v = rn (k + 1) → lg (k + 1) = max (lg k) v := fun v e => by rw [e]; exact hl1
        have HEND := Lib.hid hend
        have HMi := Lib.hid hMi
        have HOi := Lib.hid hOi
        cases m with
        | zero =>
          have hz : rn (k + 1) - rn 0 = rn (k + 1) := by rw [R0.out]; omega
          rw [hz]
          obtain ⟨v, ev⟩ : ∃ v, v = rn (k + 1) := ⟨_, rfl⟩
          have hl2 := HEND.out v ev
          rw [← ev] at hri ⊢
          obtain ⟨b, eb⟩ : ∃ b, b = lg k := ⟨_, rfl⟩
          rw [← eb] at hlg hl2 ⊢
          clear hl1 hend HEND hMi hOi h0 hrm hz ev eb
          by_cases hc : b < v
          · have HG : Hid (lg (k + 1) = v) := by show _ = _; omega
            clear hl2
            go_wp2
            exact ⟨⟨k + 1, _, by omega, by go_num, by rw [HG.out], rfl, HOi.out, HMi.out⟩, by simp [intOf]; omega⟩
          · have HG : Hid (lg (k + 1) = b) := by show _ = _; omega
            clear hl2
            go_wp2
            exact ⟨⟨k + 1, _, by omega, by go_num, by rw [HG.out], rfl, HOi.out, HMi.out⟩, by simp [intOf]; omega⟩
        | succ j =>
          have ej : ((j + 1 : Nat) : Int) - 1 = (j : Nat) := by omega
          rw [ej]
          have hjl : j < l.length := by have := EN.out; omega
          obtain ⟨bq2, off2, e2, hbw2, _, _, _, _, c4⟩ := (HS.out.below hMi.below).cells j hjl
          simp only [Option.some.injEq, Addr.mk.injEq] at e2
          obtain ⟨rfl, rfl, _⟩ := e2
          have hrj := HR.out j
          have hjn : (j : Int) < n := by omega
          have hrj2 := HRI.out j
          obtain ⟨y4, ey⟩ : ∃ y, y = (l[j]?.getD default).why := ⟨_, rfl⟩
          rw [← ey] at c4 hrj
          clear ey
          by_cases hy : y4 = 0
          · rw [if_pos hy] at hrj
            subst hy
            have hz : rn (k + 1) - rn (j + 1) = rn (k + 1) := by rw [hrj]; omega
            rw [hz]
            obtain ⟨v, ev⟩ : ∃ v, v = rn (k + 1) := ⟨_, rfl⟩
            have hl2 := HEND.out v ev
            rw [← ev] at hri ⊢
            obtain ⟨b, eb⟩ : ∃ b, b = lg k := ⟨_, rfl⟩
            rw [← eb] at hlg hl2 ⊢
            clear hl1 hend HEND hMi hOi h0 hrm hz ev eb ej hrj hrj2
            by_cases hc : b < v
            · have HG : Hid (lg (k + 1) = v) := by show _ = _; omega
              clear hl2
              go_wp2
              exact ⟨⟨k + 1, _, by omega, by go_num, by rw [HG.out], rfl, HOi.out, HMi.out⟩, by simp [intOf]; omega⟩
            · have HG : Hid (lg (k + 1) = b) := by show _ = _; omega
              clear hl2
              go_wp2
              exact ⟨⟨k + 1, _, by omega, by go_num, by rw [HG.out], rfl, HOi.out, HMi.out⟩, by simp [intOf]; omega⟩
          · rw [if_neg hy] at hrj
            have hyb : (y4 == 0) = false := beq_eq_false_iff_ne.2 hy
            obtain ⟨v, ev⟩ : ∃ v, v = rn (k + 1) - rn (j + 1) := ⟨_, rfl⟩
            rw [← ev] at h0 ⊢
            have HV : Hid (rn (k + 1) - rn j = v + 1) := by show _ = _; omega
            have hv100 : v ≤ 100 := by omega
            clear hl1 hend HEND hMi hOi ej hrj hrj2 hri hrm ev hlg
            go_wp2
            exact ⟨⟨j, by omega, by go_num, by rw [HV.out], by have := HV.out; omega, HMi.out, HOi.out⟩, by simp [intOf] <;> omega⟩
    · obtain rfl : k = n := by omega
      obtain ⟨pu, cu, eu, _, hA⟩ := advs_of_owns (l := l) (by have := hO; rw [HTF.out] at this; rw [← EN.out]; exact this)
      rw [← EN.out] at eu
      subst eu
      have P6 := PT.out pu cu
      have P7 := PL.out pu cu
      obtain ⟨⟨t0, t1, t2, t3, t4⟩, et⟩ : ∃ x, x = tt k := ⟨_, rfl⟩
      rw [← et] at hM P6
      simp only at hM P6
      have MA := Lib.hid (And.intro hM hA)
      have P6 := Lib.hid P6
      have P7 := Lib.hid P7
      have hst := stab_and (stab_mem (w := w) (bs := [(X, .cells #[.int .i64 t0, .int .i64 t1, .int .i64 t2, .int .i64 t3, .int .i64 t4] 109)])) (stab_advs (q := pu) (l := l))
      have HEQ := Lib.hid (row_equal_yes ⟨t0, t1, t2, t3, t4⟩)
      clear hM hA et hO
      go_wp2_with fail
      refine wp_region_E mixed [] hst ⟨MA.out.1.drewN 1, MA.out.2.below (below_drew (Below.refl _ _))⟩ ?_
      refine wpAnyE_take 0 rfl (by kernel_rfl) (by kernel_rfl) (by kernel_rfl) (fun _ _ _ h => h) hst (EffB.pure rfl (fun _ => rfl)) (.inr (EffB.pure rfl (fun _ => rfl))) ?_
      simp only [act_norm]
      refine wpAnyE_take 1 (v := .agg #[.int .i64 t0, .int .i64 t1, .int .i64 t2, .int .i64 t3, .int .i64 t4]) rfl (by kernel_rfl) (by kernel_rfl) (by kernel_rfl) (fun _ _ _ h => h) hst (EffB.run rfl rfl (fun wd hS => ?_)) (.inl (by kernel_rfl)) ?_
      · (go_wp2_with fail; (with_reducible refine (P6.out wd hS.2).mono ?_); rintro e w'' ⟨rfl, hb⟩; exact ⟨rfl, hb⟩)
      simp only [act_norm]
      refine wpAnyE_take 2 (v := .agg #[.int .i64 t0, .int .i64 t1, .int .i64 t2, .int .i64 t3, .int .i64 t4]) rfl (by kernel_rfl) (by kernel_rfl) (by kernel_rfl) (fun _ _ _ h => h) hst (EffB.run rfl rfl (fun wd hS => ?_)) (.inl (by kernel_rfl)) ?_
      · exact wp_load_row 109 _ rfl (X) rfl 109 #[.int .i64 t0, .int .i64 t1, .int .i64 t2, .int .i64 t3, .int .i64 t4] (0, 0) _ (hS.1.heap 0 rfl) Try.underlying109 rfl (by kernel_rfl) ⟨rfl, Below.refl _ _⟩
      simp only [act_norm]
      refine wpAnyE_take 3 (v := .bool true) rfl (by kernel_rfl) (by kernel_rfl) (by kernel_rfl) (fun _ _ _ h => h) hst (EffB.run rfl rfl (fun wd hS => ?_)) (.inl (by kernel_rfl)) ?_
      · exact wp_eql_agg _ _ _ _ rfl _ _ rfl rfl true (by kernel_rfl) (HEQ.out _) ⟨rfl, Below.refl _ _⟩
      simp only [act_norm]
      refine wpAnyE_take 4 rfl (by kernel_rfl) (by kernel_rfl) (by kernel_rfl) (fun _ _ _ h => h) hst (EffB.pure rfl (fun _ => rfl)) (.inr (EffB.pure rfl (fun _ => rfl))) ?_
      simp only [act_norm]
      refine wpAnyE_take 5 rfl (by kernel_rfl) (by kernel_rfl) (by kernel_rfl) (fun _ _ _ h => h) hst (EffB.pure rfl (fun _ => rfl)) (.inr (EffB.pure rfl (fun _ => rfl))) ?_
      simp only [act_norm]
      refine wpAnyE_take 6 (v := .int .i64 (lg k)) rfl (by kernel_rfl) (by kernel_rfl) (by kernel_rfl) (fun _ _ _ h => h) hst (EffB.run rfl rfl (fun wd hS => ?_)) (.inl (by kernel_rfl)) ?_
      · (go_wp2_with fail; (with_reducible refine (P7.out wd hS.2).mono ?_); rintro e w'' ⟨rfl, hb⟩; exact ⟨rfl, hb⟩)
      simp only [act_norm]
      refine wpAnyE_take 7 rfl (by kernel_rfl) (by kernel_rfl) (by kernel_rfl) (fun _ _ _ h => h) hst (EffB.pure rfl (fun _ => rfl)) (.inr (EffB.pure rfl (fun _ => rfl))) ?_
      simp only [act_norm]
      refine wpAnyE_take 8 (v := .bool true) rfl (by kernel_rfl) (by kernel_rfl) (by kernel_rfl) (fun _ _ _ h => h) hst (EffB.run rfl rfl (fun wd hS => ?_)) (.inr (EffB.run rfl rfl (fun wd hS => ?_))) ?_
      · (go_wp2; exact ⟨rfl, Below.refl _ _⟩)
      · (go_wp2; exact ⟨rfl, Below.refl _ _⟩)
      simp only [act_norm]
      refine wpAnyE_take 9 (v := .bool true) rfl (by kernel_rfl) (by kernel_rfl) (by kernel_rfl) (fun _ _ _ h => h) hst (EffB.run rfl rfl (fun wd hS => ?_)) (.inr (EffB.run rfl rfl (fun wd hS => ?_))) ?_
      · (go_wp2; exact ⟨rfl, Below.refl _ _⟩)
      · (go_wp2; exact ⟨rfl, Below.refl _ _⟩)
      simp only [act_norm]
      refine wpAnyE_take 10 rfl (by kernel_rfl) (by kernel_rfl) (by kernel_rfl) (fun _ _ _ h => h) hst (EffB.pure rfl (fun _ => rfl)) (.inr (EffB.pure rfl (fun _ => rfl))) ?_
      simp only [act_norm]
      refine wpAnyE_done (by kernel_rfl) (fun wd hS => ?_) _
      have HB := Lib.hid hS.1.below
      clear hS hst
      go_wp2
      go_ret
      exact ⟨rfl, HB.out⟩
end Go.Proofs.Ytldhbgefpfmkmaa
