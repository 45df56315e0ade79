/- Layer 8: in whatever order unlike ticks are put: the law, walked. -/
import Derived.Test.YtcanbagnehdbiaaJLaws08
import Derived.Test.YtcanbagnehdbiaaJOpenC
import Derived.Test.YtcanbagnehdbiaaJNone
namespace Go.Proofs.Ytcanbagnehdbiaa
open Go.ChangeShapes Go.WideShapes Go.ChangeAt Go.RowKit

theorem Samps.takeP {w : World} {p : Option Addr} {l : List Samp} (h : Samps w p l) (k : Nat) : Samps w p (l.take k) := by
  rcases h with h0 | ⟨b', off', e, hb, hc⟩
  · left; rw [List.length_take]; omega
  · refine .inr ⟨b', off', e, hb, fun j hj => ?_⟩
    rw [List.length_take] at hj
    rw [hc j (by omega)]
    show some (Value.int .i64 ((l[j / 2]?.getD default).get (j % 2))) = some (Value.int .i64 (((l.take k)[j / 2]?.getD default).get (j % 2)))
    rw [List.getElem?_take_of_lt (by omega)]
/-- The last ones, backwards. -/
def Ser.back (l : List Samp) (m : Nat) : List Samp := (l.drop (l.length - m)).reverse
theorem Ser.back_next (l : List Samp) (m : Nat) (h : m < l.length) : Ser.back l (m + 1) = Ser.back l m ++ [l[l.length - m - 1]?.getD default] := by
  unfold Ser.back
  have e : l.drop (l.length - (m + 1)) = l[l.length - m - 1]?.getD default :: l.drop (l.length - m) := by
    rw [show l.length - (m + 1) = l.length - m - 1 by omega, List.drop_eq_getElem_cons (by omega), List.getElem?_eq_getElem (by omega), show l.length - m - 1 + 1 = l.length - m by omega]
    rfl
  rw [e, List.reverse_cons]
theorem Ser.back_len (l : List Samp) (m : Nat) (h : m ≤ l.length) : (Ser.back l m).length = m := by
  unfold Ser.back
  rw [List.length_reverse, List.length_drop]
  omega

set_option maxHeartbeats 4000000 in
set_option maxRecDepth 100000 in
theorem seriesAnyOrder_walk (room : Int) (p : Option Addr) (cap : Nat) (l : List Samp) (hl : ∀ a ∈ l, a.In) (hb : l.length ≤ 9223372036854775807) (hcp : l.length ≤ cap) (hpn : p = none → l.length = 0 ∧ cap = 0) (t : Nat) (ht : t < 256) (w : World) (hs : Samps w p l) :
    Calls Try.prog 10 #[.int .i64 room, .slice p l.length cap, .int .u8 t] w fun e w' => e = .returned (.bool true) ∧ Below w.heap.size w w' := by
  obtain ⟨n, en⟩ : ∃ n, n = l.length := ⟨_, rfl⟩
  by_cases hr : room < 1 ∨ 256 < room ∨ 40 < n
  · rw [← en] at hb ⊢
    clear en hs hl hcp hpn
    by_cases h1 : room < 1
    · clear hr
      go_enter Try.func10, Try.ntmps10
      go_wp2_with fail
      (with_reducible refine (awake08 _).mono ?_)
      rintro e w1 ⟨rfl, hb1⟩
      have HB := Lib.hid hb1
      clear hb1
      go_wp2
      go_ret
      exact ⟨rfl, HB.out⟩
    by_cases h2 : 256 < room
    · clear hr
      go_enter Try.func10, Try.ntmps10
      go_wp2_with fail
      (with_reducible refine (awake08 _).mono ?_)
      rintro e w1 ⟨rfl, hb1⟩
      have HB := Lib.hid hb1
      clear hb1
      go_wp2
      go_ret
      exact ⟨rfl, HB.out⟩
    have d1 : decide ((40 : Int) < n) = true := decide_eq_true (by omega)
    clear hr
    go_enter Try.func10, Try.ntmps10
    go_wp2_with fail
    (with_reducible refine (awake08 _).mono ?_)
    rintro e w1 ⟨rfl, hb1⟩
    have HB := Lib.hid hb1
    clear hb1
    go_wp2
    go_ret
    exact ⟨rfl, HB.out⟩
  obtain ⟨R, rfl⟩ : ∃ R : Nat, room = R := ⟨room.toNat, by omega⟩
  have hR1 : 1 ≤ R := by omega
  have hR2 : R ≤ 256 := by omega
  have r1 : ¬ ((R : Int) < 1) := by omega
  have r2 : ¬ ((256 : Int) < R) := by omega
  have d1 : decide ((40 : Int) < n) = false := decide_eq_false (by omega)
  have hn40 : n ≤ 40 := by omega
  obtain ⟨K, hK0⟩ : ∃ K, K = t % (n + 1) := ⟨_, rfl⟩
  have hK : (t : Int) % ((n : Int) + 1) = (K : Int) := by rw [hK0]; exact (Int.natCast_emod t (n + 1)).symm
  have hKn : K ≤ n := by rw [hK0]; have := Nat.mod_lt t (show 0 < n + 1 by omega); omega
  have hany := fun hd => Ser.any_order (room := R) hR1 (Ser.turned l K).symm hd
  have hperm := (Ser.turned l K).length_eq
  have G1 := Lib.hid (fun (W : World) (h : Samps W p l) => ser_of p cap l (by omega) R hR1 hR2 W h)
  have G5 := Lib.hid (fun (W : World) (h : Samps W p l) => ref08_of p cap l (by omega) R hR1 hR2 W h)
  have HB0 : Hid (Ser.back l 0 = []) := by show _ = _; unfold Ser.back; simp
  have HBN := Lib.hid (Ser.back_next l)
  have HBK : Hid (Ser.back l (n - K) = (l.drop K).reverse) := by show _ = _; unfold Ser.back; rw [← en, show n - (n - K) = K by omega]
  obtain ⟨O, eO⟩ : ∃ O, O = (l.drop K).reverse ++ l.take K := ⟨_, rfl⟩
  rw [← eO] at hany hperm
  have G2 := Lib.hid (fun (q : Option Addr) (c : Nat) (W : World) (h : Samps W q O) => ser_of q c O (by omega) R hR1 hR2 W h)
  have HTK : Hid (sampVals ((l.drop K).reverse) ++ sampVals (l.take K) = sampVals O) := by show _ = _; rw [← sampVals_append, eO]
  have HS := Lib.hid hs
  have EN := Lib.hid en
  have HCP := Lib.hid hcp
  have HPN := Lib.hid hpn
  have HANY := Lib.hid hany
  have HPE : Hid (O.length = n) := hperm.symm ▸ en.symm
  rw [← en] at hb hcp ⊢
  clear hs en hr hb hpn hany hperm hl hK0 eO
  go_enter Try.func10, Try.ntmps10
  go_wp2_with fail
  (with_reducible refine (awake08 _).mono ?_)
  rintro e w1 ⟨rfl, hb1⟩
  have B1 := Lib.hid hb1
  clear hb1
  go_wp2
  go_loopw [31] (fun i wr => ∃ k : Nat, k ≤ n ∧ i = .int .i64 (k : Nat) ∧ (∀ a b, a < b → b < k → (l[b]?.getD default).tick ≠ (l[a]?.getD default).tick) ∧ Below w.heap.size w wr) (fun i _ => n - (intOf i).toNat)
  case atStart => exact ⟨0, by omega, rfl, fun _ _ _ h => absurd h (Nat.not_lt_zero _), B1.out⟩
  case round =>
    obtain ⟨k, hk, rfl, hD, hB⟩ := hrel
    by_cases hlt : k < n
    · have hkl : k < l.length := by have := EN.out; omega
      obtain ⟨bq, off, rfl, hbw, _⟩ := HS.out.cells k hkl
      obtain ⟨c0, c1⟩ := HS.out.cc k hkl wr hB
      obtain ⟨⟨x0, x1⟩, ex⟩ : ∃ x, x = l[k]?.getD default := ⟨_, rfl⟩
      rw [← ex] at c0 c1
      have EX := Lib.hid ex
      have HB := Lib.hid (hB.alloc hB.size (.cells #[.int .i64 x0, .int .i64 x1] 73))
      have M0 := Lib.hid (((Mem.start w).call hB).alloc (.cells #[.int .i64 x0, .int .i64 x1] 73))
      have HDD := Lib.hid hD
      have hkn : (k : Int) < n := by omega
      have hkc : (k : Int) ≤ cap := by omega
      have hkc2 : k ≤ cap := by omega
      simp only at c0 c1
      obtain ⟨X, hX⟩ : ∃ X, wr.heap.size = X := ⟨_, rfl⟩
      clear hB hD ex hkl
      go_wp2
      rw [hX] at M0
      try rw [hX]
      clear hX
      go_loopw [40] (fun j wq => ∃ m : Nat, m ≤ k ∧ j = .int .i64 (m : Nat) ∧ (∀ a, a < m → x0 ≠ (l[a]?.getD default).tick) ∧ Mem w wq [(X, .cells #[.int .i64 x0, .int .i64 x1] 73 (0, 0))]) (fun j _ => k - (intOf j).toNat)
      case atStart => exact ⟨0, by omega, rfl, fun _ h => absurd h (Nat.not_lt_zero _), M0.out⟩
      case round =>
        obtain ⟨m, hm, rfl, hE, hM⟩ := hrel
        by_cases hlm : m < k
        · have hml : m < l.length := by have := EN.out; omega
          obtain ⟨e0, e1⟩ := HS.out.cc m hml _ hM.below
          obtain ⟨⟨y0, y1⟩, ey⟩ : ∃ y, y = l[m]?.getD default := ⟨_, rfl⟩
          rw [← ey] at e0 e1
          simp only at e0 e1
          have EY := Lib.hid ey
          have EE := Lib.hid hE
          have M1 := Lib.hid (hM.alloc (.cells #[.int .i64 y0, .int .i64 y1] 73))
          have z0 := M1.out.cell 0 0 rfl rfl
          have hmk : (m : Int) < k := by omega
          clear hE hM ey hml
          by_cases hxy : x0 = y0
          · subst hxy
            go_wp2
            go_ret
            exact ⟨rfl, M1.out.below⟩
          · have hxb : (x0 == y0) = false := beq_eq_false_iff_ne.2 hxy
            go_wp2
            exact ⟨⟨m + 1, by omega, by go_num, fun a ha => by
              by_cases e : a = m
              · subst e; rw [← EY.out]; exact hxy
              · exact EE.out a (by omega), M1.out.init⟩, by simp [intOf]; omega⟩
        · obtain rfl : m = k := by omega
          have BF := Lib.hid hM.below
          have EE := Lib.hid hE
          clear hM hE
          go_wp2
          exact ⟨⟨m + 1, by omega, by go_num, fun a b hab hbm => by
            by_cases e : b = m
            · subst e; rw [← EX.out]; exact EE.out a hab
            · exact HDD.out a b hab (by omega), BF.out⟩, by simp [intOf]; omega⟩
    · obtain rfl : k = n := by omega
      have HSAME := Lib.hid (HANY.out (fun a b hab hb => hD a b hab (by have := EN.out; omega)))
      have BF := Lib.hid hB
      have O0 : Hid (Owns wr w.heap.size 2 (.slice none 0 0) (k - k) (sampVals (Ser.back l (k - k)))) := by
        show Owns _ _ _ _ _ _
        rw [Nat.sub_self, HB0.out]
        exact owns_nil _ _ _
      clear hB hD HANY
      go_wp2
      go_loopw [12, 13] (fun o i wq => ∃ z : Nat, K ≤ z ∧ z ≤ k ∧ i = .int .i64 ((z : Int) - 1) ∧ Owns wq w.heap.size 2 o (k - z) (sampVals (Ser.back l (k - z))) ∧ Below w.heap.size w wq) (fun _ i _ => (intOf i + 1 - K).toNat)
      case atStart => exact ⟨k, hKn, Nat.le_refl _, rfl, O0.out, BF.out⟩
      case round =>
        obtain ⟨z, hz1, hz2, rfl, hO, hB⟩ := hrel
        by_cases hlz : K < z
        · obtain ⟨y, rfl⟩ : ∃ y, z = y + 1 := ⟨z - 1, by omega⟩
          have hyl : y < l.length := by have := EN.out; omega
          obtain ⟨bq, off, rfl, hbw, _⟩ := HS.out.cells y hyl
          obtain ⟨c0, c1⟩ := HS.out.cc y hyl _ hB
          have hbn := HBN.out (k - (y + 1)) (by have := EN.out; omega)
          rw [show l.length - (k - (y + 1)) - 1 = y by have := EN.out; omega, show k - (y + 1) + 1 = k - y by omega] at hbn
          have hbl := Ser.back_len l (k - (y + 1)) (by have := EN.out; omega)
          obtain ⟨⟨x0, x1⟩, ex⟩ : ∃ x, x = l[y]?.getD default := ⟨_, rfl⟩
          rw [← ex] at c0 c1 hbn
          simp only at c0 c1
          obtain ⟨N, eN⟩ : ∃ N, N = k - (y + 1) := ⟨_, rfl⟩
          have hN1 : k - y = N + 1 := by omega
          rw [hN1] at hbn
          rw [← eN] at hO hbn hbl
          have hN40 : N ≤ 40 := by omega
          have HO := Lib.hid hO
          have HB := Lib.hid hB
          have HBN2 := Lib.hid hbn
          have HN1 := Lib.hid hN1
          have hBW := hB
          have i1 : (0 : Int) ≤ y := by omega
          have i2 : (y : Int) < k := by omega
          have i3 : (K : Int) ≤ y := by omega
          have hyk : y ≤ k := by omega
          have hKy : K ≤ y := by omega
          clear hO hB ex eN hN1 hbn hbl hyl hz1 hz2 hlz
          rw [show ((y + 1 : Nat) : Int) - 1 = (y : Int) by omega]
          go_wp2_with (at_builtin; refine wpList_append_new rfl _ _ 33 rfl _ _ 73 rfl _ 73 (.agg #[.int .i64 0, .int .i64 0]) 2 16 Try.underlying33 sampInfo rfl (by decide) _ _ _ rfl (HO.out) (by first | rfl | (rw [World.size_alloc]; rfl)) rfl (by first | (simp [Value.oneCell']; done) | (intro u hu; simp at hu; subst hu; rfl)) (by unfold maxLen; omega) (by omega) (Below.size (by assumption)) ?_; intro u1 x1 ha1 hg1 hc1)
          exact ⟨⟨y, hKy, hyk, by go_num, by rw [HN1.out, HBN2.out, sampVals_append]; exact ha1, HB.out.trans hc1⟩, by simp [intOf]; omega⟩
        · obtain rfl : z = K := by omega
          rw [HBK.out] at hO
          have HO := Lib.hid hO
          have HB := Lib.hid hB
          have HTL : Hid ((sampVals (l.take z)).length = z * 2) := by show _ = _; rw [sampVals_len, List.length_take]; have := EN.out; rw [show min z l.length = z by omega]
          have HT1 := Lib.hid (sampVals_one (l.take z))
          have HTS := Lib.hid ((HS.out.below hB).takeP z)
          have HTN : Hid (p = none → z = 0 ∧ cap = 0) := fun e => by have := HPN.out e; have := EN.out; omega
          have hzk : (z : Int) ≤ k := by omega
          have hzc : (z : Int) ≤ cap := by omega
          have hzc2 : z ≤ cap := by omega
          have hz0 : (0 : Int) ≤ z := by omega
          have hnz : ¬ ((z : Int) ≤ (z : Int) - 1) := by omega
          have hkz : k - z ≤ 40 := by omega
          have hzz : k - z + z = k := by omega
          have HZZ := Lib.hid hzz
          clear hO hB hz1 hz2 hlz HBK hzz
          go_wp2_with ((at_builtin; refine wpList_append_any rfl _ _ 33 rfl _ 73 (.agg #[.int .i64 0, .int .i64 0]) 2 16 Try.underlying33 sampInfo rfl (by decide) _ _ _ rfl (HO.out) (p) (z) (cap) (sampVals (l.take z)) rfl (HTL.out) (HTN.out) (HTS.out.news) (HT1.out) (by unfold maxLen; omega) (by omega) (HB.out.size) ?_; intro u1 x1 ha1 hg1); have hb2 := HB.out.grown hg1 HB.out.size (fun k' hk => (HO.out.lt k' hk).1); have HA := Lib.hid ha1; have HB2 := Lib.hid hb2; clear ha1 hg1 hb2 HO HB)
          have hao := HA.out
          rw [HTK.out, HZZ.out, ← HPE.out] at hao
          obtain ⟨qo, co, rfl, _, hso⟩ := samps_of_owns hao
          have hg2 := G2.out qo co
          rw [HPE.out] at hg2 ⊢
          obtain ⟨La, eLa⟩ : ∃ La, La = Ser.of R l l.length := ⟨_, rfl⟩
          have hsame := HSAME.out
          have hg1 := G1.out
          have hg5 := G5.out
          have hll := Ser.of_length hR1 l l.length (Nat.le_refl _)
          rw [← eLa] at hsame hll
          rw [← EN.out] at hg1 hg5 eLa
          simp only [← eLa] at hg1 hg5
          rw [HPE.out] at hsame
          simp only [← hsame] at hg2
          have SO := Lib.hid hso
          have GA := Lib.hid (hg1 x1 (HS.out.below HB2.out))
          have GB := Lib.hid hg2
          have G6 := Lib.hid hg5
          have hl256 : La.length ≤ 256 := by omega
          clear hao hso hg2 hg1 hg5 hsame eLa G1 G2 G5 HSAME hll HA
          go_wp2_with fail
          (with_reducible refine GA.out.mono ?_)
          rintro e w2 ⟨sa, va, rfl, hsa, hb3⟩
          have SA := Lib.hid hsa
          have B3 := Lib.hid (HB2.out.trans (hb3.mono HB2.out.size))
          have GC := Lib.hid (GB.out w2 (SO.out.below hb3))
          clear hsa hb3 GA GB SO
          go_wp2_with fail
          (with_reducible refine GC.out.mono ?_)
          rintro e w3 ⟨sb, vb, rfl, hsb, hb4⟩
          have SB := Lib.hid hsb
          have SA2 := Lib.hid (SA.out.below hb4)
          have B4 := Lib.hid (B3.out.trans (hb4.mono B3.out.size))
          obtain ⟨m, em⟩ : ∃ m, m = La.length := ⟨_, rfl⟩
          have L1 := Lib.hid (ser_list2 SA2.out em.symm)
          have G7 := Lib.hid (fun (q1 q2 : Option Addr) (c1 c2 : Nat) (W : World) (h1 : Samps W q1 La) (h2 : Samps W q2 La) => ref08_alike q1 q2 m c1 c2 La em.symm (by omega) W h1 h2)
          have EMM := Lib.hid em
          clear hsb hb4 GC em SA
          go_wp2_with fail
          (with_reducible refine L1.out.mono ?_)
          rintro e w4 ⟨q4, c4, rfl, hs4, hb5⟩
          have T4 := Lib.hid hs4
          have SA3 := Lib.hid (SA2.out.below hb5)
          have B5 := Lib.hid (B4.out.trans (hb5.mono B4.out.size))
          have L2 := Lib.hid (ser_list2 (SB.out.below hb5) EMM.out.symm)
          clear hs4 hb5 L1 SA2 SB
          go_wp2_with fail
          (with_reducible refine L2.out.mono ?_)
          rintro e w5 ⟨q5, c5, rfl, hs5, hb6⟩
          have T5 := Lib.hid hs5
          have T4b := Lib.hid (T4.out.below hb6)
          have SA4 := Lib.hid (SA3.out.below hb6)
          have B6 := Lib.hid (B5.out.trans (hb6.mono B5.out.size))
          clear hs5 hb6 L2 T4 SA3
          go_wp2_with fail
          (with_reducible refine (G7.out q4 q5 c4 c5 _ T4b.out T5.out).mono ?_)
          rintro e w6 ⟨rfl, hb7⟩
          have B7 := Lib.hid (B6.out.trans (hb7.mono B6.out.size))
          have L3 := Lib.hid (ser_list2 (SA4.out.below hb7) EMM.out.symm)
          clear hb7 T4b T5 SA4
          go_wp2_with fail
          (with_reducible refine L3.out.mono ?_)
          rintro e w7 ⟨q7, c7, rfl, hs7, hb8⟩
          have T7 := Lib.hid hs7
          have B8 := Lib.hid (B7.out.trans (hb8.mono B7.out.size))
          have GD := Lib.hid (G6.out w7 (HS.out.below B8.out))
          clear hs7 hb8 L3
          go_wp2_with fail
          (with_reducible refine GD.out.mono ?_)
          rintro e w8 ⟨q8, c8, rfl, _, hs8, _, hb9⟩
          have T8 := Lib.hid hs8
          have T7b := Lib.hid (T7.out.below hb9)
          have B9 := Lib.hid (B8.out.trans (hb9.mono B8.out.size))
          clear hs8 hb9 GD G6 T7
          rw [← EMM.out]
          go_wp2_with fail
          (with_reducible refine (G7.out q7 q8 c7 c8 _ T7b.out T8.out).mono ?_)
          rintro e w9 ⟨rfl, hb10⟩
          have B10 := Lib.hid (B9.out.trans (hb10.mono B9.out.size))
          clear hb10
          go_wp2
          go_ret
          exact ⟨rfl, B10.out⟩
end Go.Proofs.Ytcanbagnehdbiaa
