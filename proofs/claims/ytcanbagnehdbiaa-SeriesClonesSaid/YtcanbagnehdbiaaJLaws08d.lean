/- Layer 8: a series that was cloned goes on by itself: the law, walked. -/
import Derived.Test.YtcanbagnehdbiaaJLaws08
import Derived.Test.YtcanbagnehdbiaaJNone
namespace Go.Proofs.Ytcanbagnehdbiaa
open Go.ChangeShapes Go.WideShapes Go.ChangeAt Go.RowKit

set_option maxHeartbeats 2000000 in
set_option maxRecDepth 100000 in
theorem ser_of_no (p : Option Addr) (cap : Nat) (l : List Samp) (hb : l.length ≤ 100000) (room : Int) (hr : room < 1 ∨ 256 < room) (w : World) (hs : Samps w p l) :
    Calls Try.prog 45 #[.int .i64 room, .slice p l.length cap] w fun e w' => e = .returned (.pointer none) ∧ Below w.heap.size w w' := by
  have HS := Lib.hid hs
  have HNW := Lib.hid (ser_new_no room hr)
  obtain ⟨n, en⟩ : ∃ n, n = l.length := ⟨_, rfl⟩
  have EN := Lib.hid en
  rw [← en] at hb ⊢
  clear hs en hr
  go_enter Try.func45, Try.ntmps45
  go_wp2_with ((with_reducible refine (HNW.out _).mono ?_); rintro e w1 ⟨rfl, rfl⟩)
  go_loopw [12] (fun i wr => ∃ (k : Nat), k ≤ n ∧ i = .int .i64 (k : Nat) ∧ Below w.heap.size w wr) (fun i _ => n - (intOf i).toNat)
  case atStart => exact ⟨0, by omega, rfl, Below.refl _ _⟩
  case round =>
    obtain ⟨k, hk, rfl, hB⟩ := hrel
    by_cases hlt : k < n
    · have hkl : k < l.length := by have := EN.out; omega
      obtain ⟨bq, off, rfl, hbw, _⟩ := HS.out.cells k hkl
      obtain ⟨c0, c1⟩ := HS.out.cc k hkl wr hB
      obtain ⟨x, ex⟩ : ∃ x, x = l[k]?.getD default := ⟨_, rfl⟩
      rw [← ex] at c0 c1
      have HBA := Lib.hid (hB.alloc hB.size (.cells #[.int .i64 x.tick, .int .i64 x.val] 73))
      have hP : ∃ c : Int, ∀ W : World, Calls Try.prog 41 #[.pointer none, .int .i64 x.tick, .int .i64 x.val] W fun e w' => e = .returned (.int .i64 c) ∧ W = w' := by
        by_cases hc : Ser.code x = 0
        · exact ⟨5, fun W => ser_put_nil x hc W⟩
        · exact ⟨Ser.code x, fun W => ser_put_bad x hc W⟩
      obtain ⟨c, hP⟩ := hP
      have P := Lib.hid hP
      have hkn : (k : Int) < n := by omega
      obtain ⟨tick, val⟩ := x
      simp only at c0 c1 P HBA
      clear hB ex hP
      go_wp2_with ((with_reducible refine (P.out _).mono ?_); rintro e w1 ⟨rfl, rfl⟩)
      exact ⟨⟨k + 1, by omega, by go_num, HBA.out⟩, by simp [intOf]; omega⟩
    · obtain rfl : k = n := by omega
      have B2 := Lib.hid hB
      clear hB
      go_wp2
      go_ret
      exact ⟨rfl, B2.out⟩

set_option maxHeartbeats 4000000 in
set_option maxRecDepth 100000 in
theorem seriesClones_walk (room : Int) (p : Option Addr) (cap : Nat) (l : List Samp) (hb : l.length ≤ 9223372036854775807) (hpn : p = none → l.length = 0 ∧ cap = 0) (q : Option Addr) (dap : Nat) (m : List Samp) (hb2 : m.length ≤ 9223372036854775807) (hqn : q = none → m.length = 0 ∧ dap = 0) (w : World) (hs : Samps w p l) (ht : Samps w q m) :
    Calls Try.prog 11 #[.int .i64 room, .slice p l.length cap, .slice q m.length dap] w fun e w' => e = .returned (.bool true) ∧ Below w.heap.size w w' := by
  obtain ⟨n, en⟩ : ∃ n, n = l.length := ⟨_, rfl⟩
  obtain ⟨r, er⟩ : ∃ n, n = m.length := ⟨_, rfl⟩
  by_cases h1 : 40 < n
  · have d1 : decide ((40 : Int) < n) = true := decide_eq_true (by omega)
    rw [← en] at hb ⊢
    rw [← er] at hb2 ⊢
    clear en er hs ht hpn hqn
    go_enter Try.func11, Try.ntmps11
    go_wp2_with fail
    (with_reducible refine (awake08 _).mono ?_)
    rintro e w1 ⟨rfl, hb1⟩
    have HB := Lib.hid hb1
    clear hb1
    go_wp2
    go_ret
    exact ⟨rfl, HB.out⟩
  have d1 : decide ((40 : Int) < n) = false := decide_eq_false (by omega)
  by_cases h2 : 40 < r
  · have d2 : decide ((40 : Int) < r) = true := decide_eq_true (by omega)
    rw [← en] at hb ⊢
    rw [← er] at hb2 ⊢
    clear en er hs ht hpn hqn
    go_enter Try.func11, Try.ntmps11
    go_wp2_with fail
    (with_reducible refine (awake08 _).mono ?_)
    rintro e w1 ⟨rfl, hb1⟩
    have HB := Lib.hid hb1
    clear hb1
    go_wp2
    go_ret
    exact ⟨rfl, HB.out⟩
  have d2 : decide ((40 : Int) < r) = false := decide_eq_false (by omega)
  by_cases hr : room < 1 ∨ 256 < room
  · have G1 := Lib.hid (fun (W : World) (h : Samps W p l) => ser_of_no p cap l (by omega) room hr W h)
    have HS := Lib.hid hs
    have P1 : Hid (∀ W : World, Calls Try.prog 41 #[.pointer none, .int .i64 1, .int .i64 1] W fun e w' => e = .returned (.int .i64 5) ∧ W = w') := fun W => ser_put_nil ⟨1, 1⟩ (by decide) W
    have P2 : Hid (∀ W : World, Calls Try.prog 41 #[.pointer none, .int .i64 (-1), .int .i64 1] W fun e w' => e = .returned (.int .i64 3) ∧ W = w') := fun W => ser_put_bad ⟨-1, 1⟩ (by decide) W
    have L1 := Lib.hid ser_last_nil
    have L2 := Lib.hid ser_len_nil
    have L3 := Lib.hid (ser_trim_nil 5)
    have L4 := Lib.hid ser_clone_nil
    rw [← en] at hb G1 ⊢
    rw [← er] at hb2 ⊢
    clear en er hs ht hpn hqn
    by_cases hr1 : room < 1
    · clear hr
      go_enter Try.func11, Try.ntmps11
      go_wp2_with fail
      (with_reducible refine (awake08 _).mono ?_)
      rintro e w1 ⟨rfl, hb1⟩
      have B1 := Lib.hid hb1
      clear hb1
      go_wp2_with fail
      (with_reducible refine (G1.out _ (HS.out.below B1.out)).mono ?_)
      rintro e w2 ⟨rfl, hb2⟩
      have B2 := Lib.hid (B1.out.trans (hb2.mono B1.out.size))
      clear hb2 G1 B1
      go_wp2_with fail
      (with_reducible refine (L1.out _).mono ?_)
      rintro e w3 ⟨rfl, hb3⟩
      have M3 := Lib.hid (((Mem.start w).call (B2.out.trans (hb3.mono B2.out.size))).alloc (.cells #[.int .i64 0, .int .i64 0] 73))
      clear hb3 L1 B2
      go_wp2_with (first | ((with_reducible refine (P1.out _).mono ?_); rintro e w9 ⟨rfl, rfl⟩) | ((with_reducible refine (P2.out _).mono ?_); rintro e w9 ⟨rfl, rfl⟩) | ((with_reducible refine (L2.out _).mono ?_); rintro e w9 ⟨rfl, rfl⟩) | ((with_reducible refine (L3.out _).mono ?_); rintro e w9 ⟨rfl, rfl⟩) | ((with_reducible refine (L4.out _).mono ?_); rintro e w9 ⟨rfl, rfl⟩))
      go_ret
      exact ⟨rfl, M3.out.below⟩
    · have hr2 : 256 < room := by omega
      clear hr
      go_enter Try.func11, Try.ntmps11
      go_wp2_with fail
      (with_reducible refine (awake08 _).mono ?_)
      rintro e w1 ⟨rfl, hb1⟩
      have B1 := Lib.hid hb1
      clear hb1
      go_wp2_with fail
      (with_reducible refine (G1.out _ (HS.out.below B1.out)).mono ?_)
      rintro e w2 ⟨rfl, hb2⟩
      have B2 := Lib.hid (B1.out.trans (hb2.mono B1.out.size))
      clear hb2 G1 B1
      go_wp2_with fail
      (with_reducible refine (L1.out _).mono ?_)
      rintro e w3 ⟨rfl, hb3⟩
      have M3 := Lib.hid (((Mem.start w).call (B2.out.trans (hb3.mono B2.out.size))).alloc (.cells #[.int .i64 0, .int .i64 0] 73))
      clear hb3 L1 B2
      go_wp2_with (first | ((with_reducible refine (P1.out _).mono ?_); rintro e w9 ⟨rfl, rfl⟩) | ((with_reducible refine (P2.out _).mono ?_); rintro e w9 ⟨rfl, rfl⟩) | ((with_reducible refine (L2.out _).mono ?_); rintro e w9 ⟨rfl, rfl⟩) | ((with_reducible refine (L3.out _).mono ?_); rintro e w9 ⟨rfl, rfl⟩) | ((with_reducible refine (L4.out _).mono ?_); rintro e w9 ⟨rfl, rfl⟩))
      go_ret
      exact ⟨rfl, M3.out.below⟩
  obtain ⟨R, rfl⟩ : ∃ R : Nat, room = R := ⟨room.toNat, by omega⟩
  have hR1 : 1 ≤ R := by omega
  have hR2 : R ≤ 256 := by omega
  have hn40 : n ≤ 40 := by omega
  have hr40 : r ≤ 40 := by omega
  have G1 := Lib.hid (fun (W : World) (h : Samps W p l) => ser_of p cap l (by omega) R hR1 hR2 W h)
  have G2 := Lib.hid (fun (W : World) (h : Samps W p l) => ref08_of p cap l (by omega) R hR1 hR2 W h)
  have hlm : (l ++ m).length = n + r := by rw [List.length_append, en, er]
  have G3 := Lib.hid (fun (u : Option Addr) (c : Nat) (W : World) (h : Samps W u (l ++ m)) => ref08_of u c (l ++ m) (by omega) R hR1 hR2 W h)
  rw [hlm] at G3
  have hal : Ser.of R (l ++ m) (n + r) = m.foldl (Ser.step R) (Ser.of R l n) := by
    unfold Ser.of
    rw [← hlm, List.take_length, List.foldl_append, en, List.take_length]
  rw [hal] at G3
  obtain ⟨La, eLa⟩ : ∃ La, La = Ser.of R l l.length := ⟨_, rfl⟩
  rw [← en] at eLa
  have hlal : La.length ≤ 256 := by rw [eLa]; have := Ser.of_length hR1 l n (by omega); omega
  rw [← eLa] at G3
  simp only [← en, ← eLa] at G1 G2
  have HF0 : Hid ((m.take 0).foldl (Ser.step R) La = La) := rfl
  have HFN : Hid (∀ k, k < m.length → (m.take (k + 1)).foldl (Ser.step R) La = Ser.step R ((m.take k).foldl (Ser.step R) La) (m[k]?.getD default)) := fun k h => by
    rw [List.take_succ_eq_append_getElem h, List.foldl_append, List.getElem?_eq_getElem h]
    rfl
  have HFE : Hid ((m.take r).foldl (Ser.step R) La = m.foldl (Ser.step R) La) := by show _ = _; rw [er, List.take_length]
  obtain ⟨Lb, eLb⟩ : ∃ Lb, Lb = m.foldl (Ser.step R) La := ⟨_, rfl⟩
  rw [← eLb] at HFE G3
  obtain ⟨f, ef⟩ : ∃ f, f = fun k => (m.take k).foldl (Ser.step R) La := ⟨_, rfl⟩
  have HF0' : Hid (f 0 = La) := by rw [ef]; exact HF0.out
  have HFN' : Hid (∀ k, k < m.length → f (k + 1) = Ser.step R (f k) (m[k]?.getD default)) := by rw [ef]; exact HFN.out
  have HFE' : Hid (f r = Lb) := by rw [ef]; exact HFE.out
  have HS := Lib.hid hs
  have HT := Lib.hid ht
  have EN := Lib.hid en
  have ER := Lib.hid er
  have HPN := Lib.hid hpn
  have HQN := Lib.hid hqn
  have OL := Lib.hid (sampVals_one l)
  have OM := Lib.hid (sampVals_one m)
  have NL : Hid ((sampVals l).length = n * 2) := by show _ = _; rw [sampVals_len, en]
  have NM : Hid ((sampVals m).length = r * 2) := by show _ = _; rw [sampVals_len, er]
  rw [← en] at hb HPN ⊢
  rw [← er] at hb2 HQN ⊢
  clear en er hs ht hpn hqn hr eLa eLb ef hal hlm HF0 HFN HFE
  go_enter Try.func11, Try.ntmps11
  go_wp2_with fail
  (with_reducible refine (awake08 _).mono ?_)
  rintro e w1 ⟨rfl, hb1⟩
  have B1 := Lib.hid hb1
  clear hb1
  go_wp2_with fail
  (with_reducible refine (G1.out _ (HS.out.below B1.out)).mono ?_)
  rintro e w2 ⟨s, v, rfl, hser, hb2⟩
  have B2 := Lib.hid (B1.out.trans (hb2.mono B1.out.size))
  have S2 := Lib.hid hser
  have C2 := Lib.hid (ser_clone hser)
  clear hb2 G1 B1 hser
  go_wp2_with fail
  (with_reducible refine C2.out.mono ?_)
  rintro e w3 ⟨sc, vc, rfl, hsc, hb3⟩
  have B3 := Lib.hid (B2.out.trans (hb3.mono B2.out.size))
  have S3 := Lib.hid (S2.out.below hb3)
  have T3 := Lib.hid hsc
  have LT : Hid (w1.heap.size ≤ w2.heap.size ∧ s < w2.heap.size ∧ (∀ k, v.ownBlock = some k → k < w2.heap.size) ∧ w.heap.size ≤ w2.heap.size) := ⟨Nat.le_trans S2.out.low (Nat.le_of_lt S2.out.lt), S2.out.lt, fun k h => (S2.out.owns.lt k h).2, B2.out.size⟩
  clear hsc hb3 C2 S2 B2
  go_wp2
  go_loopw [77] (fun i wr => ∃ (k : Nat) (vk : Value), k ≤ r ∧ i = .int .i64 (k : Nat) ∧ SerAt wr w1.heap.size s v R La ∧ SerAt wr w2.heap.size sc vk R (f k) ∧ Below w.heap.size w wr) (fun i _ => r - (intOf i).toNat)
  case atStart => exact ⟨0, vc, by omega, rfl, S3.out, by rw [HF0'.out]; exact T3.out, B3.out⟩
  case round =>
    obtain ⟨k, vk, hk, rfl, hSa, hSc, hB⟩ := hrel
    by_cases hlt : k < r
    · have hkl : k < m.length := by have := ER.out; omega
      obtain ⟨bq, off, rfl, hbw, _⟩ := HT.out.cells k hkl
      obtain ⟨c0, c1⟩ := HT.out.cc k hkl wr hB
      have hnx := HFN'.out k hkl
      obtain ⟨x, ex⟩ : ∃ x, x = m[k]?.getD default := ⟨_, rfl⟩
      rw [← ex] at c0 c1 hnx
      have hA := below1 wr (.cells #[.int .i64 x.tick, .int .i64 x.val] 73)
      have SA := Lib.hid (hSa.below hA)
      have SC := Lib.hid (hSc.below hA)
      have BA := Lib.hid (hB.alloc hB.size (.cells #[.int .i64 x.tick, .int .i64 x.val] 73))
      have hge : w2.heap.size ≤ (wr.alloc (.cells #[.int .i64 x.tick, .int .i64 x.val] 73)).heap.size := Nat.le_trans SC.out.low (Nat.le_of_lt SC.out.lt)
      have P := Lib.hid (ser_step SC.out hge x)
      have HNX := Lib.hid hnx
      have hkn : (k : Int) < r := by omega
      obtain ⟨cd, ecd⟩ : ∃ c, c = Ser.code x := ⟨_, rfl⟩
      rw [← ecd] at P
      obtain ⟨tick, val⟩ := x
      simp only at c0 c1 P BA
      clear hSa hSc hB hnx ex ecd hA hge
      go_wp2_with fail
      (with_reducible refine P.out.mono ?_)
      rintro e w5 ⟨rfl, v5, hs5, ht5, _⟩
      have SC5 := Lib.hid hs5
      have SA5 := Lib.hid (SA.out.turned ht5 (fun e => by
        have := LT.out.2.1
        rcases e with e | e
        · have := SC.out.low; omega
        · have := (SC.out.owns.lt _ e).1; omega) (fun k' hk' e => by
        have := LT.out.2.2.1 k' hk'
        rcases e with e | e
        · have := SC.out.low; omega
        · have := (SC.out.owns.lt _ e).1; omega))
      have B5 : Hid (Below w.heap.size w w5) := BA.out.trans (ht5.below (fun k' e => by
        have := LT.out.2.2.2
        rcases e with e | e
        · have := SC.out.low; omega
        · have := (SC.out.owns.lt _ e).1; omega) BA.out.size)
      clear hs5 ht5 P SC SA BA
      go_wp2
      exact ⟨⟨k + 1, v5, by omega, by go_num, SA5.out, by rw [HNX.out]; exact SC5.out, B5.out⟩, by simp [intOf]; omega⟩
    · obtain rfl : k = r := by omega
      rw [HFE'.out] at hSc
      have SA := Lib.hid hSa
      have SC := Lib.hid hSc
      have BR := Lib.hid hB
      have H0 : Hid (Owns wr wr.heap.size 2 (.slice none 0 0) 0 []) := owns_nil _ _ _
      have hl2 : Lb.length ≤ 256 := Nat.le_trans hSc.len hSc.room2
      clear hSa hSc hB S3 T3 B3 HF0' HFN' HFE'
      go_wp2_with (first
        | ((at_builtin; refine wpList_append_any rfl _ _ 33 rfl _ 73 (.agg #[.int .i64 0, .int .i64 0]) 2 16 Try.underlying33 sampInfo rfl (by decide) _ _ _ rfl (H0.out) (p) (n) (cap) (sampVals l) rfl (NL.out) (HPN.out) ((HS.out.below BR.out).news) (OL.out) (by unfold maxLen; omega) (by omega) ((Nat.le_refl _)) ?_; intro u1 x1 ha1 hg1); have hb2 := (Below.refl wr.heap.size wr).grown hg1 (Nat.le_refl _) (fun k hk => (H0.out.lt k hk).1); rw [Nat.zero_add, List.nil_append] at ha1; have HA := Lib.hid ha1; have HB2 := Lib.hid hb2; clear ha1 hg1 hb2 H0)
        | ((at_builtin; refine wpList_append_any rfl _ _ 33 rfl _ 73 (.agg #[.int .i64 0, .int .i64 0]) 2 16 Try.underlying33 sampInfo rfl (by decide) _ _ _ rfl (HA.out) (q) (k) (dap) (sampVals m) rfl (NM.out) (HQN.out) (((HT.out.below BR.out).below HB2.out).news) (OM.out) (by unfold maxLen; omega) (by omega) (HB2.out.size) ?_; intro u1 x1 ha1 hg1); have hb3 := HB2.out.grown hg1 HB2.out.size (fun k hk => (HA.out.lt k hk).1); rw [← sampVals_append, show n + k = (l ++ m).length by rw [List.length_append, ← EN.out, ← ER.out]] at ha1; obtain ⟨q1, c1, rfl, _, hq1⟩ := samps_of_owns ha1; rw [show (l ++ m).length = n + k by rw [List.length_append, ← EN.out, ← ER.out]]; have HW := Lib.hid hb3; have HQ1 := Lib.hid hq1; clear ha1 hg1 hb3 hq1 HA HB2))
      have SA2 := Lib.hid (SA.out.below HW.out)
      have SC2 := Lib.hid (SC.out.below HW.out)
      have B2 := Lib.hid (BR.out.trans (HW.out.mono BR.out.size))
      have GA := Lib.hid (G2.out _ (HS.out.below B2.out))
      obtain ⟨na, ena⟩ : ∃ x, x = La.length := ⟨_, rfl⟩
      have ENA := Lib.hid ena
      obtain ⟨nb, enb⟩ : ∃ x, x = Lb.length := ⟨_, rfl⟩
      have ENB := Lib.hid enb
      rw [← ena] at GA
      simp only [← enb] at G3
      clear SA SC HW BR G2 ena enb
      go_wp2_with fail
      (with_reducible refine GA.out.mono ?_)
      rintro e w6 ⟨q6, c6, rfl, _, hs6, _, hb6⟩
      have SA3 := Lib.hid (SA2.out.below hb6)
      have SC3 := Lib.hid (SC2.out.below hb6)
      have B3 := Lib.hid (B2.out.trans (hb6.mono B2.out.size))
      have HQ2 := Lib.hid (HQ1.out.below hb6)
      have hp := told08 SA3.out q6 c6 hs6
      rw [← ENA.out] at hp
      have P := Lib.hid hp
      clear hs6 hb6 hp GA SA2 SC2 B2 HQ1
      go_wp2_with fail
      (with_reducible refine P.out.mono ?_)
      rintro e w7 ⟨rfl, hb7⟩
      have SC4 := Lib.hid (SC3.out.below hb7)
      have B4 := Lib.hid (B3.out.trans (hb7.mono B3.out.size))
      have GB := Lib.hid (G3.out q1 c1 w7 (HQ2.out.below hb7))
      clear hb7 P SA3 SC3 B3 HQ2 G3
      go_wp2_with fail
      (with_reducible refine GB.out.mono ?_)
      rintro e w8 ⟨q8, c8, rfl, _, hs8, _, hb8⟩
      have SC5 := Lib.hid (SC4.out.below hb8)
      have B5 := Lib.hid (B4.out.trans (hb8.mono B4.out.size))
      have hp := told08 SC5.out q8 c8 hs8
      rw [← ENB.out] at hp
      have P := Lib.hid hp
      clear hs8 hb8 hp GB SC4 B4
      go_wp2_with fail
      (with_reducible refine P.out.mono ?_)
      rintro e w9 ⟨rfl, hb9⟩
      have B6 := Lib.hid (B5.out.trans (hb9.mono B5.out.size))
      clear hb9 P
      go_wp2
      go_ret
      exact ⟨rfl, B6.out⟩
end Go.Proofs.Ytcanbagnehdbiaa
