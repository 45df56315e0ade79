/- Layer 14: the laws, walked: what a history keeps. -/
import Derived.Test.YtildjnibdappnaaLaws14c
namespace Go.Proofs.Ytildjnibdappnaa
open Go.ChangeShapes Go.WideShapes Go.ChangeAt Go.RowKit

set_option maxHeartbeats 4000000 in
set_option maxRecDepth 100000 in
theorem historyKeeps_none (room : Int) (hrm : room < 1 ∨ 64 < room) (p : Option Addr) (cap : Nat) (n : Nat) (hb : n ≤ 9223372036854775807) (a : Adv) (w : World) :
    Calls Try.prog 3 #[.int .i64 room, .slice p n cap, .agg #[.int .i64 a.tick, .int .i64 a.load, .int .i64 a.want, .int .i64 a.repl, .int .i64 a.why]] w fun e w' => e = .returned (.bool true) ∧ Below w.heap.size w w' := by
  have HN := Lib.hid (hist_new_no room hrm)
  have M0 : Hid (Mem w (w.alloc (.cells #[.int .i64 a.tick, .int .i64 a.load, .int .i64 a.want, .int .i64 a.repl, .int .i64 a.why] 24)) [(w.heap.size, .cells #[.int .i64 a.tick, .int .i64 a.load, .int .i64 a.want, .int .i64 a.repl, .int .i64 a.why] 24)]) := (Mem.start w).alloc _
  have L1 := Lib.hid hist_last_nil
  have L2 := Lib.hid (hist_add_nil a)
  have L3 := Lib.hid hist_len_nil
  have L4 := Lib.hid hist_list_nil
  have L5 := Lib.hid hist_clone_nil
  by_cases h100 : 100 < n
  · have d3 : decide ((100 : Int) < n) = true := decide_eq_true (by omega)
    go_enter Try.func3, Try.ntmps3
    go_wp2_with fail
    (with_reducible refine (awake14 _).mono ?_)
    rintro e w1 ⟨rfl, hb1⟩
    have B1 := Lib.hid (M0.out.call hb1).below
    clear hb1
    go_wp2_with ((with_reducible refine (HN.out _).mono ?_); rintro e w2 ⟨rfl, rfl⟩)
    go_ret
    exact ⟨rfl, B1.out⟩
  have d3 : decide ((100 : Int) < n) = false := decide_eq_false (by omega)
  by_cases h1 : room < 1
  · have d1 : decide (room < 1) = true := decide_eq_true h1
    clear hrm
    go_enter Try.func3, Try.ntmps3
    go_wp2_with fail
    (with_reducible refine (awake14 _).mono ?_)
    rintro e w1 ⟨rfl, hb1⟩
    have M1 := Lib.hid (M0.out.call hb1)
    clear hb1
    go_wp2_with ((with_reducible refine (HN.out _).mono ?_); rintro e w2 ⟨rfl, rfl⟩)
    (with_reducible refine (L1.out _).mono ?_)
    rintro e w2 ⟨rfl, hb2⟩
    have M2 := Lib.hid ((M1.out.call hb2).alloc (.cells #[.int .i64 0, .int .i64 0, .int .i64 0, .int .i64 0, .int .i64 0] 24))
    have K2 := Lib.hid (M2.out.heap 0 rfl)
    clear hb2
    go_wp2_with (first | ((with_reducible refine wpList_load_rowG ?_ 24 _ rfl (w.heap.size) ?_ 24 #[.int .i64 a.tick, .int .i64 a.load, .int .i64 a.want, .int .i64 a.repl, .int .i64 a.why] (0, 0) _ 5 ?_ Try.underlying24 rfl (by kernel_rfl) ?_ ?_); kernel_rfl; exact rfl; exact K2.out; exact rfl) | ((with_reducible refine wpList_store_rowAs rfl 24 _ _ rfl (w2.heap.size) #[.int .i64 0, .int .i64 0, .int .i64 0, .int .i64 0, .int .i64 0] ?_ ?_ 24 #[.int .i64 0, .int .i64 0, .int .i64 0, .int .i64 0, .int .i64 0] 5 ?_ (by kernel_rfl) rfl rfl (by simp [Value.oneCell']) ?_); exact rfl; exact rfl; exact (heap_alloc_at _ _ _ rfl); (first | rw [row_1_0] | rw [row_2_0] | rw [row_2_1] | rw [row_3_0] | rw [row_3_1] | rw [row_3_2] | rw [row_4_0] | rw [row_4_1] | rw [row_4_2] | rw [row_4_3] | rw [row_5_0] | rw [row_5_1] | rw [row_5_2] | rw [row_5_3] | rw [row_5_4] | rw [row_6_0] | rw [row_6_1] | rw [row_6_2] | rw [row_6_3] | rw [row_6_4] | rw [row_6_5] | simp only [setRow_alloc_past, setRow_alloc_at, World.size_alloc, Nat.add_assoc, Nat.reduceAdd, Nat.lt_add_right_iff_pos, Nat.add_lt_add_iff_left, Nat.reduceLT, Nat.zero_lt_succ, Nat.lt_add_one])))
    (with_reducible refine (L2.out _).mono ?_)
    rintro e w3 ⟨rfl, hb3⟩
    have M3 := Lib.hid (M2.out.call hb3)
    clear hb3
    go_wp2_with fail
    (with_reducible refine (L3.out _).mono ?_)
    rintro e w4 ⟨rfl, rfl⟩
    go_wp2_with fail
    (with_reducible refine (L4.out _).mono ?_)
    rintro e w4 ⟨p4, c4, rfl, hb4⟩
    have M4 := Lib.hid (M3.out.call hb4)
    clear hb4
    go_wp2_with fail
    (with_reducible refine (L5.out _).mono ?_)
    rintro e w5 ⟨rfl, rfl⟩
    go_wp2
    go_ret
    exact ⟨rfl, M4.out.below⟩
  · have d1 : decide (room < 1) = false := decide_eq_false h1
    have d2 : decide (64 < room) = true := decide_eq_true (by omega)
    clear hrm
    go_enter Try.func3, Try.ntmps3
    go_wp2_with fail
    (with_reducible refine (awake14 _).mono ?_)
    rintro e w1 ⟨rfl, hb1⟩
    have M1 := Lib.hid (M0.out.call hb1)
    clear hb1
    go_wp2_with ((with_reducible refine (HN.out _).mono ?_); rintro e w2 ⟨rfl, rfl⟩)
    (with_reducible refine (L1.out _).mono ?_)
    rintro e w2 ⟨rfl, hb2⟩
    have M2 := Lib.hid ((M1.out.call hb2).alloc (.cells #[.int .i64 0, .int .i64 0, .int .i64 0, .int .i64 0, .int .i64 0] 24))
    have K2 := Lib.hid (M2.out.heap 0 rfl)
    clear hb2
    go_wp2_with (first | ((with_reducible refine wpList_load_rowG ?_ 24 _ rfl (w.heap.size) ?_ 24 #[.int .i64 a.tick, .int .i64 a.load, .int .i64 a.want, .int .i64 a.repl, .int .i64 a.why] (0, 0) _ 5 ?_ Try.underlying24 rfl (by kernel_rfl) ?_ ?_); kernel_rfl; exact rfl; exact K2.out; exact rfl) | ((with_reducible refine wpList_store_rowAs rfl 24 _ _ rfl (w2.heap.size) #[.int .i64 0, .int .i64 0, .int .i64 0, .int .i64 0, .int .i64 0] ?_ ?_ 24 #[.int .i64 0, .int .i64 0, .int .i64 0, .int .i64 0, .int .i64 0] 5 ?_ (by kernel_rfl) rfl rfl (by simp [Value.oneCell']) ?_); exact rfl; exact rfl; exact (heap_alloc_at _ _ _ rfl); (first | rw [row_1_0] | rw [row_2_0] | rw [row_2_1] | rw [row_3_0] | rw [row_3_1] | rw [row_3_2] | rw [row_4_0] | rw [row_4_1] | rw [row_4_2] | rw [row_4_3] | rw [row_5_0] | rw [row_5_1] | rw [row_5_2] | rw [row_5_3] | rw [row_5_4] | rw [row_6_0] | rw [row_6_1] | rw [row_6_2] | rw [row_6_3] | rw [row_6_4] | rw [row_6_5] | simp only [setRow_alloc_past, setRow_alloc_at, World.size_alloc, Nat.add_assoc, Nat.reduceAdd, Nat.lt_add_right_iff_pos, Nat.add_lt_add_iff_left, Nat.reduceLT, Nat.zero_lt_succ, Nat.lt_add_one])))
    (with_reducible refine (L2.out _).mono ?_)
    rintro e w3 ⟨rfl, hb3⟩
    have M3 := Lib.hid (M2.out.call hb3)
    clear hb3
    go_wp2_with fail
    (with_reducible refine (L3.out _).mono ?_)
    rintro e w4 ⟨rfl, rfl⟩
    go_wp2_with fail
    (with_reducible refine (L4.out _).mono ?_)
    rintro e w4 ⟨p4, c4, rfl, hb4⟩
    have M4 := Lib.hid (M3.out.call hb4)
    clear hb4
    go_wp2_with fail
    (with_reducible refine (L5.out _).mono ?_)
    rintro e w5 ⟨rfl, rfl⟩
    go_wp2
    go_ret
    exact ⟨rfl, M4.out.below⟩

theorem Advs.turned {S : Nat → Prop} {w w' : World} {p : Option Addr} {l : List Adv} (h : Advs w p l) (ht : Turned S w w') (hp : ∀ ad, p = some ad → ¬ S ad.block) : Advs w' p l := by
  rcases h with h0 | ⟨b', off, e, hb, hc⟩
  · exact .inl h0
  · have h1 := ht.block b' hb (hp _ e)
    refine .inr ⟨b', off, e, Nat.lt_of_lt_of_le hb ht.size, fun j hj => ?_⟩
    rw [← hc j hj]
    exact World.cell?_of_block h1
theorem Mem.turned {S : Nat → Prop} {w w' w'' : World} {bs : List (Nat × Obj)} (h : Mem w w' bs) (ht : Turned S w' w'') (hS : ∀ k, S k → w.heap.size ≤ k ∧ ∀ (i : Nat) (o : Obj), bs[i]? ≠ some (k, o)) : Mem w w'' bs :=
  ⟨h.below.trans (ht.below (fun k hk => (hS k hk).1) h.below.size), fun i b o hi => (ht.block b (h.lt hi) (fun hk => (hS b hk).2 i o hi)).trans (h.has i b o hi), h.apart, h.own⟩

set_option maxHeartbeats 4000000 in
set_option maxRecDepth 100000 in
theorem historyKeeps_some (R : Nat) (hr1 : 1 ≤ R) (hr2 : R ≤ 64) (p : Option Addr) (cap : Nat) (l : List Adv) (hb : l.length ≤ 9223372036854775807) (a : Adv) (w : World) (hs : Advs w p l) :
    Calls Try.prog 3 #[.int .i64 R, .slice p l.length cap, .agg #[.int .i64 a.tick, .int .i64 a.load, .int .i64 a.want, .int .i64 a.repl, .int .i64 a.why]] w fun e w' => e = .returned (.bool true) ∧ Below w.heap.size w w' := by
  have HN := Lib.hid (hist_new R hr1 hr2)
  have M0 : Hid (Mem w (w.alloc (.cells #[.int .i64 a.tick, .int .i64 a.load, .int .i64 a.want, .int .i64 a.repl, .int .i64 a.why] 24)) [(w.heap.size, .cells #[.int .i64 a.tick, .int .i64 a.load, .int .i64 a.want, .int .i64 a.repl, .int .i64 a.why] 24)]) := (Mem.start w).alloc _
  have HS := Lib.hid hs
  have d1 : decide ((R : Int) < 1) = false := decide_eq_false (by omega)
  have d2 : decide ((64 : Int) < R) = false := decide_eq_false (by omega)
  obtain ⟨n, en⟩ : ∃ n, n = l.length := ⟨_, rfl⟩
  have EN := Lib.hid en
  rw [← en] at hb ⊢
  clear hs en
  by_cases h100 : 100 < n
  · have d3 : decide ((100 : Int) < n) = true := decide_eq_true (by omega)
    go_enter Try.func3, Try.ntmps3
    go_wp2_with fail
    (with_reducible refine (awake14 _).mono ?_)
    rintro e w1 ⟨rfl, hb1⟩
    have B1 := Lib.hid (M0.out.call hb1)
    clear hb1
    go_wp2_with fail
    (with_reducible refine (HN.out _).mono ?_)
    rintro e w2 ⟨h, r, rfl, hr, hb2⟩
    have B2 := Lib.hid (B1.out.call hb2).below
    clear hb2 hr
    go_wp2
    go_ret
    exact ⟨rfl, B2.out⟩
  have d3 : decide ((100 : Int) < n) = false := decide_eq_false (by omega)
  go_enter Try.func3, Try.ntmps3
  go_wp2_with fail
  (with_reducible refine (awake14 _).mono ?_)
  rintro e w1 ⟨rfl, hb1⟩
  have M1 := Lib.hid (M0.out.call hb1)
  have hW1 : w.heap.size + 1 ≤ w1.heap.size := M1.out.lt (i := 0) rfl
  clear hb1
  go_wp2_with fail
  (with_reducible refine (HN.out _).mono ?_)
  rintro e w2 ⟨h, r, rfl, hr, hb2⟩
  have M2 := Lib.hid (M1.out.call hb2)
  have R2 : Hid (HistA w2 (w.heap.size + 1) h r (.slice none 0 0) R (lastN R (l.take 0))) := by
    have e0 : lastN R (l.take 0) = [] := by simp [lastN]
    rw [e0]
    exact hr.lift hW1
  clear hb2 hr M1 hW1
  go_wp2
  go_loopw [10, 64] (fun s i wr => ∃ k v q d, k ≤ n ∧ i = .int .i64 (k : Nat) ∧ s = .slice q (lastN R (l.take k)).length d ∧ (lastN R (l.take k)).length ≤ d ∧ (q = none → (lastN R (l.take k)).length = 0 ∧ d = 0) ∧ Advs wr q (lastN R (l.take k)) ∧ (∀ ad, q = some ad → ad.block ≠ r ∧ v.ownBlock ≠ some ad.block) ∧ HistA wr (w.heap.size + 1) h r v R (lastN R (l.take k)) ∧ Mem w wr [(w.heap.size, .cells #[.int .i64 a.tick, .int .i64 a.load, .int .i64 a.want, .int .i64 a.repl, .int .i64 a.why] 24)]) (fun _ i _ => n - (intOf i).toNat)
  case atStart =>
    have e0 : (lastN R (l.take 0)).length = 0 := by simp [lastN]
    exact ⟨0, _, none, 0, by omega, rfl, by rw [e0], by rw [e0]; omega, fun _ => ⟨e0, rfl⟩, .inl e0, fun _ h => (by cases h), R2.out, M2.out⟩
  case round =>
    obtain ⟨k, v, q, d, hk, rfl, rfl, hqd, hq0, hA, hap, hH, hM⟩ := hrel
    have HA := Lib.hid hA
    have HAP := Lib.hid hap
    have HH := Lib.hid hH
    have MM := Lib.hid hM
    have HQ := Lib.hid hq0
    clear hA hap hH hM hq0 M0 M2 R2 HN
    by_cases hlt : k < n
    · have hkl : k < l.length := by have := EN.out; omega
      have htk : l.take (k + 1) = l.take k ++ [l[k]?.getD default] := by
        rw [List.take_add_one, List.getElem?_eq_getElem hkl]; rfl
      have hnext := Ring.next_last R hr1 (l.take k) (l[k]?.getD default)
      rw [← htk] at hnext
      have hll : (lastN R (l.take k)).length = min R k := by rw [lastN_len, List.length_take]; congr 1; omega
      have hll2 : (lastN R (l.take (k + 1))).length = min R (k + 1) := by rw [lastN_len, List.length_take]; congr 1; omega
      obtain ⟨x, ex⟩ : ∃ x, x = l[k]?.getD default := ⟨_, rfl⟩
      obtain ⟨L, eL⟩ : ∃ L, L = lastN R (l.take k) := ⟨_, rfl⟩
      obtain ⟨L2, eL2⟩ : ∃ L, L = lastN R (l.take (k + 1)) := ⟨_, rfl⟩
      have hlast : L2[L2.length - 1]? = some x := by
        rw [eL2]
        unfold lastN
        rw [List.getElem?_drop, List.length_drop, List.length_take, show min (k + 1) l.length = k + 1 by omega, show k + 1 - R + (k + 1 - (k + 1 - R) - 1) = k by omega, List.getElem?_take_of_lt (by omega), ex, List.getElem?_eq_getElem hkl]
        rfl
      rw [← ex, ← eL2, ← eL] at hnext
      rw [← eL] at hll HH HA hqd HQ ⊢
      rw [← eL2] at hll2
      have hput : Adv.put L R x = L2 := (Adv.put_next hr1 (by omega) x).trans hnext
      obtain ⟨b, off, rfl, hbw, c0, c1, c2, c3, c4⟩ := (HS.out.below MM.out.below).cells k hkl
      rw [← ex] at c0 c1 c2 c3 c4
      have EL2 := Lib.hid eL2
      have HLA := Lib.hid hlast
      have HNX := Lib.hid hnext
      have HPU := Lib.hid hput
      have H0 := HH.out.below (below1 wr (.cells #[.int .i64 x.tick, .int .i64 x.load, .int .i64 x.want, .int .i64 x.repl, .int .i64 x.why] 24))
      have A0 := HA.out.below (below1 wr (.cells #[.int .i64 x.tick, .int .i64 x.load, .int .i64 x.want, .int .i64 x.repl, .int .i64 x.why] 24))
      have M0 := MM.out.alloc (.cells #[.int .i64 x.tick, .int .i64 x.load, .int .i64 x.want, .int .i64 x.repl, .int .i64 x.why] 24)
      have hp1 := hist_add H0 (Nat.le_of_lt (Nat.lt_of_le_of_lt H0.low (lt_of_heap H0.row))) x
      rw [HNX.out] at hp1
      have P1 := Lib.hid hp1
      have H0' := Lib.hid H0
      have A0' := Lib.hid A0
      have M0' := Lib.hid M0
      obtain ⟨m, em⟩ : ∃ m, m = L.length := ⟨_, rfl⟩
      obtain ⟨m2, em2⟩ : ∃ m, m = L2.length := ⟨_, rfl⟩
      rw [← em] at hll hqd HQ ⊢
      rw [← em2] at hll2
      have EM := Lib.hid em
      have EM2 := Lib.hid em2
      have hm1 : m ≤ R := by omega
      have hm2 : m2 ≤ R := by omega
      have hm3 : 1 ≤ m2 := by omega
      clear ex eL eL2 htk hnext hlast hput hp1 H0 A0 M0 em em2 hll hll2
      go_wp2_with fail
      (with_reducible refine P1.out.mono ?_)
      rintro e w3 ⟨rfl, v3, h3, ht3, hw3⟩
      have hrX := H0'.out.ring.apart
      have hrlt := H0'.out.ring.lt
      have hRlow : w.heap.size + 1 ≤ r := hrX.2.1
      have hrwr := HH.out.ring.lt
      have A3 := Lib.hid (A0'.out.turned ht3 (fun ad had e => by rcases e with e | e; exact (HAP.out ad had).1 e; exact (HAP.out ad had).2 e))
      have M3 := Lib.hid (M0'.out.turned ht3 (fun k hk => by
        have hk2 : w.heap.size + 1 ≤ k ∧ k < wr.heap.size := by
          rcases hk with rfl | hk
          · exact ⟨hRlow, hrwr.1⟩
          · exact ⟨hrX.2.2 k hk, hrwr.2 k hk⟩
        refine ⟨by omega, fun i o hi => ?_⟩
        match i, hi with
        | 0, hi => simp at hi; omega
        | 1, hi => simp at hi; omega
        | i + 2, hi => simp at hi))
      have H3 := Lib.hid h3
      have W3 : Hid (∀ k, v3.ownBlock = some k → k < w3.heap.size) := fun k hk => h3.ring.lt.2 k hk
      clear h3 ht3 hw3 hrX hrlt hrwr P1 H0' A0' M0' c0 c1 c2 c3 c4
      have hpu := ref14_put q m d L EM.out.symm (by omega) HQ.out R x w3 A3.out
      rw [HPU.out, ← EM2.out] at hpu
      have P2 := Lib.hid hpu
      have K3 := Lib.hid (M3.out.heap 1 rfl)
      clear hpu
      go_wp2_with ((with_reducible refine wpList_load_rowAs rfl 24 _ rfl (wr.heap.size) ?_ 24 #[.int .i64 x.tick, .int .i64 x.load, .int .i64 x.want, .int .i64 x.repl, .int .i64 x.why] (0, 0) _ 5 ?_ Try.underlying24 rfl (by kernel_rfl) ?_ ?_); exact rfl; exact K3.out; exact rfl)
      (with_reducible refine P2.out.mono ?_)
      rintro e w4 ⟨q4, d4, rfl, hd4, ha4, hq4, hb4⟩
      have M4 := Lib.hid (M3.out.call hb4)
      have H4 := Lib.hid (H3.out.below hb4)
      have hA4 := Lib.hid ha4
      have Q4 := Lib.hid hq4
      have hrl3 := H3.out.ring.lt.1
      have AP4 : Hid (∀ ad, q4 = some ad → ad.block ≠ r ∧ v3.ownBlock ≠ some ad.block) := fun ad had => by
        have h1 := (ha4.2 ad had).1
        exact ⟨by omega, fun e => by have := W3.out _ e; omega⟩
      clear ha4 hq4 hb4 P2 K3 M3 H3 W3 hrl3
      have P3 := Lib.hid (hist_last H4.out (by rw [← EM2.out]; omega) x HLA.out)
      go_wp2_with fail
      (with_reducible refine P3.out.mono ?_)
      rintro e w5 ⟨rfl, hb5⟩
      have M5 := Lib.hid ((M4.out.call hb5).alloc (.cells #[.int .i64 x.tick, .int .i64 x.load, .int .i64 x.want, .int .i64 x.repl, .int .i64 x.why] 24))
      have hb5' := hb5.trans ((below1 w5 (.cells #[.int .i64 x.tick, .int .i64 x.load, .int .i64 x.want, .int .i64 x.repl, .int .i64 x.why] 24)).mono hb5.size)
      have H5 := Lib.hid (H4.out.below hb5')
      have A5 := Lib.hid (hA4.out.1.below hb5')
      have P4 := hist_len H5.out
      rw [← EM2.out] at P4
      have F4 := Lib.hid P4
      have P5 := hist_list H5.out
      rw [← EM2.out] at P5
      have F5 := Lib.hid P5
      clear hb5 hb5' P3 P4 P5 M4 H4
      go_wp2_with ((with_reducible refine wpList_store_rowAs rfl 24 _ _ rfl (w5.heap.size) #[.int .i64 x.tick, .int .i64 x.load, .int .i64 x.want, .int .i64 x.repl, .int .i64 x.why] ?_ ?_ 24 #[.int .i64 0, .int .i64 0, .int .i64 0, .int .i64 0, .int .i64 0] 5 ?_ (by kernel_rfl) rfl rfl (by simp [Value.oneCell']) ?_); exact rfl; exact rfl; exact (heap_alloc_at _ _ _ rfl); (first | rw [row_1_0] | rw [row_2_0] | rw [row_2_1] | rw [row_3_0] | rw [row_3_1] | rw [row_3_2] | rw [row_4_0] | rw [row_4_1] | rw [row_4_2] | rw [row_4_3] | rw [row_5_0] | rw [row_5_1] | rw [row_5_2] | rw [row_5_3] | rw [row_5_4] | rw [row_6_0] | rw [row_6_1] | rw [row_6_2] | rw [row_6_3] | rw [row_6_4] | rw [row_6_5] | simp only [setRow_alloc_past, setRow_alloc_at, World.size_alloc, Nat.add_assoc, Nat.reduceAdd, Nat.lt_add_right_iff_pos, Nat.add_lt_add_iff_left, Nat.reduceLT, Nat.zero_lt_succ, Nat.lt_add_one]))
      (with_reducible refine F4.out.mono ?_)
      rintro e w6 ⟨rfl, rfl⟩
      go_wp2_with fail
      (with_reducible refine F5.out.mono ?_)
      rintro e w7 ⟨p7, c7, rfl, _, hs7, hb7⟩
      have M7 := Lib.hid (M5.out.call hb7)
      have H7 := Lib.hid (H5.out.below hb7)
      have A7 := Lib.hid (A5.out.below hb7)
      have F7 := Lib.hid (ref14_same p7 q4 m2 c7 d4 L2 EM2.out.symm (by omega) w7 hs7 A7.out)
      clear hs7 hb7 F4 F5 M5 H5 A5
      go_wp2_with fail
      (with_reducible refine F7.out.mono ?_)
      rintro e w8 ⟨rfl, hb8⟩
      have M8 := Lib.hid (M7.out.call hb8)
      have H8 := Lib.hid (H7.out.below hb8)
      have A8 := Lib.hid (A7.out.below hb8)
      have K1 := Lib.hid (M8.out.heap 1 rfl)
      have K2 := Lib.hid (M8.out.heap 2 rfl)
      clear hb8 F7 M7 H7 A7
      go_wp2_with (first | ((with_reducible refine wpList_load_rowG ?_ 24 _ rfl (w5.heap.size) ?_ 24 #[.int .i64 x.tick, .int .i64 x.load, .int .i64 x.want, .int .i64 x.repl, .int .i64 x.why] (0, 0) _ 5 ?_ Try.underlying24 rfl (by kernel_rfl) ?_ ?_); kernel_rfl; exact rfl; exact K2.out; exact rfl) | ((with_reducible refine wpList_load_rowG ?_ 24 _ rfl (wr.heap.size) ?_ 24 #[.int .i64 x.tick, .int .i64 x.load, .int .i64 x.want, .int .i64 x.repl, .int .i64 x.why] (0, 0) _ 5 ?_ Try.underlying24 rfl (by kernel_rfl) ?_ ?_); kernel_rfl; exact rfl; exact K1.out; exact rfl) | ((with_reducible refine wpList_neq_aggG ?_ _ _ _ _ rfl _ _ rfl rfl true (by kernel_rfl) (adv_equal_yes x _) ?_); kernel_rfl))
      refine ⟨⟨k + 1, v3, q4, d4, by omega, by go_num, by rw [← EL2.out, ← EM2.out], by rw [← EL2.out, ← EM2.out]; exact hd4, by rw [← EL2.out, ← EM2.out]; exact Q4.out, by rw [← EL2.out]; exact A8.out, AP4.out, by rw [← EL2.out]; exact H8.out, M8.out.init.init⟩, by simp [intOf]; omega⟩
    · obtain rfl : k = n := by omega
      have hll : (lastN R (l.take k)).length = min R k := by rw [lastN_len, List.length_take]; have := EN.out; congr 1; omega
      obtain ⟨L, eL⟩ : ∃ L, L = lastN R (l.take k) := ⟨_, rfl⟩
      rw [← eL] at HA hqd HH HQ hll ⊢
      have hput : Adv.put L R a = Ring.next R L a := Adv.put_next hr1 (by omega) a
      obtain ⟨m, em⟩ : ∃ m, m = L.length := ⟨_, rfl⟩
      rw [← em] at hll hqd HQ ⊢
      have EM := Lib.hid em
      have hm1 : m ≤ R := by omega
      obtain ⟨L2, eL2⟩ : ∃ Z, Z = Ring.next R L a := ⟨_, rfl⟩
      rw [← eL2] at hput
      have EL2 := Lib.hid eL2
      have HPU := Lib.hid hput
      have P1 := Lib.hid (hist_clone HH.out)
      clear eL hll hput em eL2
      go_wp2_with fail
      (with_reducible refine P1.out.mono ?_)
      rintro e w2 ⟨h', r', u', rfl, hc, hb2⟩
      have C2 := Lib.hid hc
      have H2 := Lib.hid (HH.out.below hb2)
      have A2 := Lib.hid (HA.out.below hb2)
      have M2 := Lib.hid (MM.out.call hb2)
      have K2 := Lib.hid (M2.out.heap 0 rfl)
      have P2 := hist_add hc hb2.size a
      rw [← EL2.out] at P2
      have F2 := Lib.hid P2
      have hlow := HH.out.ring.lt
      have hlow2 := lt_of_heap HH.out.row
      have hlq : ∀ ad, q = some ad → Advs wr q L → ad.block < wr.heap.size ∨ L.length = 0 := fun ad had hA => by
        rcases hA with h0 | ⟨b', off, e, hb, _⟩
        · exact .inr h0
        · rw [had] at e; cases e; exact .inl hb
      clear hc hb2 P1 P2
      go_wp2_with ((with_reducible refine wpList_load_rowAs rfl 24 _ rfl (w.heap.size) ?_ 24 #[.int .i64 a.tick, .int .i64 a.load, .int .i64 a.want, .int .i64 a.repl, .int .i64 a.why] (0, 0) _ 5 ?_ Try.underlying24 rfl (by kernel_rfl) ?_ ?_); exact rfl; exact K2.out; exact rfl)
      (with_reducible refine F2.out.mono ?_)
      rintro e w3 ⟨rfl, v3, hc3, ht3, hw3⟩
      have hge : ∀ k, (k = r' ∨ u'.ownBlock = some k) → wr.heap.size ≤ k := fun k hk => by
        rcases hk with rfl | hk
        · exact C2.out.ring.apart.2.1
        · exact C2.out.ring.apart.2.2 k hk
      have H3 := Lib.hid (H2.out.turned ht3 (fun e => by have := hge _ e; omega) (fun e => by have := hge _ e; omega) (fun k hk e => by have := hge _ e; have := hlow.2 k hk; omega))
      have A3 : Hid (Advs w3 q L) := by
        show Advs w3 q L
        by_cases h0 : L.length = 0
        · exact .inl h0
        · exact A2.out.turned ht3 (fun ad had e => by have := hge _ e; rcases hlq ad had HA.out with h1 | h1; omega; exact h0 h1)
      have hMsz := MM.out.lt (i := 0) rfl
      have M3 := Lib.hid (M2.out.turned ht3 (fun k hk => by
        have := hge k hk
        refine ⟨by have := MM.out.below.size; omega, fun i o hi => ?_⟩
        match i, hi with
        | 0, hi => simp at hi; omega
        | i + 1, hi => simp at hi))
      have C3 := Lib.hid hc3
      have hst := stab_and (stab_and (stab_hist (B := w.heap.size + 1) (h := h) (r := r) (v := v) (room := R) (L := L)) (stab_hist (B := wr.heap.size) (h := h') (r := r') (v := v3) (room := R) (L := L2))) (stab_and (stab_advs (q := q) (l := L)) (stab_mem (w := w) (bs := [(w.heap.size, .cells #[.int .i64 a.tick, .int .i64 a.load, .int .i64 a.want, .int .i64 a.repl, .int .i64 a.why] 24)])))
      have P3 := fun (W : World) (hA : Advs W q L) => ref14_put q m d L EM.out.symm (by omega) HQ.out R a W hA
      rw [HPU.out] at P3
      have F3 := Lib.hid P3
      clear hc3 ht3 hw3 hge H2 A2 M2 K2 C2 F2 P3 hlq hlow hlow2 hMsz
      go_wp2_with fail
      refine wp_region_E mixed [] hst ⟨⟨H3.out.below (below_drew (Below.refl _ _)), C3.out.below (below_drew (Below.refl _ _))⟩, A3.out.below (below_drew (Below.refl _ _)), M3.out.drewN 1⟩ ?_
      refine wpAnyE_take 0 rfl (by kernel_rfl) (by kernel_rfl) (by kernel_rfl) (fun _ _ _ h => h) hst (EffB.pure rfl (fun _ => rfl)) (.inr (EffB.pure rfl (fun _ => rfl))) ?_
      simp only [act_norm]
      refine wpAnyE_take 2 rfl (by kernel_rfl) (by kernel_rfl) (by kernel_rfl) (fun _ _ _ h => h) hst (EffB.pure rfl (fun _ => rfl)) (.inr (EffB.pure rfl (fun _ => rfl))) ?_
      simp only [act_norm]
      refine wpAnyE_one 1 rfl (by kernel_rfl) rfl (fun wd hS => ?_)
      have P4 := hist_list hS.1.1
      rw [← EM.out] at P4
      go_wp2_with fail
      (with_reducible refine P4.mono ?_)
      rintro e w4 ⟨p4, c4, rfl, _, hs4, hb4⟩
      have hst2 := stab_and hst (stab_advs (q := p4) (l := L))
      refine ⟨_, ⟨hst _ _ hS hb4, hs4⟩, hst2, (by first | exact fun _ h => h.1 | exact .inr fun _ h => h.1), ?_⟩
      try simp only [act_norm]
      clear hS hs4 hb4 P4 hst
      have hst := hst2
      refine wpAnyE_take 3 (v := .bool true) rfl (by kernel_rfl) (by kernel_rfl) (by kernel_rfl) (fun _ _ _ h => h) hst (EffB.run rfl rfl (fun wd hS => ?_)) (.inl (by kernel_rfl)) ?_
      · (go_wp2_with fail; (with_reducible refine (ref14_same p4 q m c4 d L EM.out.symm (by omega) wd hS.2 hS.1.2.1).mono ?_); rintro e w'' ⟨rfl, hb⟩; exact ⟨rfl, hb⟩)
      simp only [act_norm]
      refine wpAnyE_take 4 rfl (by kernel_rfl) (by kernel_rfl) (by kernel_rfl) (fun _ _ _ h => h) hst (EffB.pure rfl (fun _ => rfl)) (.inr (EffB.pure rfl (fun _ => rfl))) ?_
      simp only [act_norm]
      refine wpAnyE_take 5 rfl (by kernel_rfl) (by kernel_rfl) (by kernel_rfl) (fun _ _ _ h => h) hst (EffB.pure rfl (fun _ => rfl)) (.inr (EffB.pure rfl (fun _ => rfl))) ?_
      simp only [act_norm]
      refine wpAnyE_take 7 rfl (by kernel_rfl) (by kernel_rfl) (by kernel_rfl) (fun _ _ _ h => h) hst (EffB.pure rfl (fun _ => rfl)) (.inr (EffB.pure rfl (fun _ => rfl))) ?_
      simp only [act_norm]
      refine wpAnyE_take 8 rfl (by kernel_rfl) (by kernel_rfl) (by kernel_rfl) (fun _ _ _ h => h) hst (EffB.pure rfl (fun _ => rfl)) (.inr (EffB.pure rfl (fun _ => rfl))) ?_
      simp only [act_norm]
      refine wpAnyE_take 9 (v := .agg #[.int .i64 a.tick, .int .i64 a.load, .int .i64 a.want, .int .i64 a.repl, .int .i64 a.why]) rfl (by kernel_rfl) (by kernel_rfl) (by kernel_rfl) (fun _ _ _ h => h) hst (EffB.run rfl rfl (fun wd hS => ?_)) (.inl (by kernel_rfl)) ?_
      · exact wp_load_row 24 _ rfl (w.heap.size) rfl 24 #[.int .i64 a.tick, .int .i64 a.load, .int .i64 a.want, .int .i64 a.repl, .int .i64 a.why] (0, 0) _ (hS.1.2.2.heap 0 rfl) Try.underlying24 rfl (by kernel_rfl) ⟨rfl, Below.refl _ _⟩
      simp only [act_norm]
      refine wpAnyE_one 6 rfl (by kernel_rfl) rfl (fun wd hS => ?_)
      have P4 := hist_list hS.1.1.2
      go_wp2_with fail
      (with_reducible refine P4.mono ?_)
      rintro e w5 ⟨p5, c5, rfl, _, hs5, hb5⟩
      have hst3 := stab_and hst (stab_advs (q := p5) (l := L2))
      refine ⟨_, ⟨hst _ _ hS hb5, hs5⟩, hst3, (by first | exact fun _ h => h.1 | exact .inr fun _ h => h.1), ?_⟩
      try simp only [act_norm]
      clear hS hs5 hb5 P4 hst hst2
      have hst := hst3
      refine wpAnyE_one 10 rfl (by kernel_rfl) rfl (fun wd hS => ?_)
      go_wp2_with fail
      (with_reducible refine (F3.out wd hS.1.1.2.1).mono ?_)
      rintro e w6 ⟨q6, c6, rfl, _, hs6, _, hb6⟩
      have hst4 := stab_and hst (stab_advs (q := q6) (l := L2))
      refine ⟨_, ⟨hst _ _ hS hb6, hs6.1⟩, hst4, (by first | exact fun _ h => h.1 | exact .inr fun _ h => h.1), ?_⟩
      try simp only [act_norm]
      clear hS hs6 hb6 hst hst3
      have hst := hst4
      have hl2 : L2.length ≤ R := by rw [EL2.out]; unfold Ring.next; have := EM.out; split <;> simp <;> omega
      refine wpAnyE_take 11 (v := .bool true) rfl (by kernel_rfl) (by kernel_rfl) (by kernel_rfl) (fun _ _ _ h => h) hst (EffB.run rfl rfl (fun wd hS => ?_)) (.inl (by kernel_rfl)) ?_
      · (go_wp2_with fail; (with_reducible refine (ref14_same p5 q6 L2.length c5 c6 L2 rfl (by omega) wd hS.1.2 hS.2).mono ?_); rintro e w'' ⟨rfl, hb⟩; exact ⟨rfl, hb⟩)
      simp only [act_norm]
      refine wpAnyE_take 12 (v := .bool true) rfl (by kernel_rfl) (by kernel_rfl) (by kernel_rfl) (fun _ _ _ h => h) hst (EffB.run rfl rfl (fun wd hS => ?_)) (.inr (EffB.run rfl rfl (fun wd hS => ?_))) ?_
      · (go_wp2; exact ⟨rfl, Below.refl _ _⟩)
      · (go_wp2; exact ⟨rfl, Below.refl _ _⟩)
      simp only [act_norm]
      refine wpAnyE_take 13 rfl (by kernel_rfl) (by kernel_rfl) (by kernel_rfl) (fun _ _ _ h => h) hst (EffB.pure rfl (fun _ => rfl)) (.inr (EffB.pure rfl (fun _ => rfl))) ?_
      simp only [act_norm]
      refine wpAnyE_done (by kernel_rfl) (fun wd hS => ?_) _
      have BF := Lib.hid hS.1.1.1.2.2.below
      clear hS hst
      go_wp2
      go_ret
      exact ⟨rfl, BF.out⟩

theorem historyKeeps_walk (room : Int) (p : Option Addr) (cap : Nat) (l : List Adv) (hb : l.length ≤ 9223372036854775807) (a : Adv) (w : World) (hs : Advs w p l) :
    Calls Try.prog 3 #[.int .i64 room, .slice p l.length cap, .agg #[.int .i64 a.tick, .int .i64 a.load, .int .i64 a.want, .int .i64 a.repl, .int .i64 a.why]] w fun e w' => e = .returned (.bool true) ∧ Below w.heap.size w w' := by
  by_cases h : room < 1 ∨ 64 < room
  · exact historyKeeps_none room h p cap _ hb a w
  · obtain ⟨R, rfl⟩ : ∃ R : Nat, room = R := ⟨room.toNat, by omega⟩
    exact historyKeeps_some R (by omega) (by omega) p cap l hb a w hs
end Go.Proofs.Ytildjnibdappnaa
