/- Layer 7: the laws, walked: rings that were cloned. -/
import Derived.Test.YtjbapfdgkaiehaaLaws07c
namespace Go.Proofs.Ytjbapfdgkaiehaa
open Go.ChangeShapes Go.WideShapes Go.ChangeAt Go.RowKit

theorem Ints.news {w : World} {p : Option Addr} {l : List Int} (h : Ints .i64 w p l) : ∀ ad, p = some ad → ∀ j u, (intVals l)[j]? = some u → w.cell? (ad.add j) = some u := by
  intro ad had j u hu
  have hj : j < l.length := by have := (List.getElem?_eq_some_iff.1 hu).1; rwa [intVals_len] at this
  obtain ⟨b, off, hp, hb, hc⟩ := h.pos (by omega)
  rw [hp] at had
  obtain rfl : ad = ⟨b, off, none⟩ := by simpa using had.symm
  have e : (⟨b, off, none⟩ : Addr).add j = ⟨b, off + j, none⟩ := by unfold Addr.add; split <;> simp_all
  rw [e, hc j (by omega), ← hu]
  simp [intVals, hj]
theorem intVals_one (l : List Int) : ∀ u ∈ intVals l, u.oneCell' = true := by intro u hu; simp [intVals] at hu; obtain ⟨a, _, rfl⟩ := hu; rfl
theorem take_next (l : List Int) (k : Nat) (h : k < l.length) : l.take (k + 1) = l.take k ++ [l[k]?.getD 0] := by
  rw [List.take_add_one, List.getElem?_eq_getElem h]; rfl

set_option maxHeartbeats 8000000 in
set_option maxRecDepth 100000 in
theorem ringClones_main (R : Nat) (hr1 : 1 ≤ R) (hr2 : R ≤ 4096) (p q : Option Addr) (cap dap : Nat) (l m : List Int) (hn : l.length ≤ 60) (hm : m.length ≤ 60) (hcl : l.length ≤ cap) (hcm : m.length ≤ dap) (hpn : p = none → l.length = 0 ∧ cap = 0) (hqn : q = none → m.length = 0 ∧ dap = 0)
    (w : World) (hs : Ints .i64 w p l) (ht : Ints .i64 w q m) :
    Calls Try.prog 10 #[.int .i64 R, .slice p l.length cap, .slice q m.length dap] w fun e w' => e = .returned (.bool true) ∧ Below w.heap.size w w' := by
  have HN := Lib.hid (ringI_made R hr1 hr2)
  have HS := Lib.hid hs
  have HT := Lib.hid ht
  have HPN := Lib.hid hpn
  have HQN := Lib.hid hqn
  obtain ⟨n, en⟩ : ∃ n, n = l.length := ⟨_, rfl⟩
  obtain ⟨k2, ek2⟩ : ∃ n, n = m.length := ⟨_, rfl⟩
  have EN := Lib.hid en
  have EM := Lib.hid ek2
  rw [← en] at hn hcl ⊢
  rw [← ek2] at hm hcm ⊢
  have d1 : decide ((60 : Int) < n) = false := decide_eq_false (by omega)
  have d2 : decide ((60 : Int) < k2) = false := decide_eq_false (by omega)
  clear hs ht hpn hqn en ek2
  go_enter Try.func10, Try.ntmps10
  go_wp2_with fail
  (with_reducible refine (awake07 _).mono ?_)
  rintro e w1 ⟨rfl, hb1⟩
  have B1 := Lib.hid hb1
  clear hb1
  go_wp2_with fail
  (with_reducible refine (HN.out _).mono ?_)
  rintro e w2 ⟨r, rfl, hr, hb2⟩
  have B2 := Lib.hid (B1.out.trans (hb2.mono B1.out.size))
  have R2 : Hid (RingI w2 w.heap.size r (.slice none 0 0) R (lastN R (l.take 0))) := by
    obtain ⟨f, ys, g1, g2⟩ := hr
    have e0 : lastN R (l.take 0) = [] := by simp [lastN]
    rw [e0]
    exact ⟨f, ys, ⟨Nat.le_trans B1.out.size g1.low, g1.row, g1.owns.mono B1.out.size, g1.apart, g1.void⟩, g2⟩
  clear hb2 hr
  go_wp2
  go_loopw [65] (fun i wr => ∃ k v, k ≤ n ∧ i = .int .i64 (k : Nat) ∧ RingI wr w.heap.size r v R (lastN R (l.take k)) ∧ Below w.heap.size w wr) (fun i _ => n - (intOf i).toNat)
  case atStart => exact ⟨0, _, by omega, rfl, R2.out, B2.out⟩
  case round =>
    obtain ⟨k, v, hk, rfl, hR, hB⟩ := hrel
    have RR := Lib.hid hR
    have BB := Lib.hid hB
    clear hR hB R2 B2
    by_cases hlt : k < n
    · have hkl : k < l.length := by have := EN.out; omega
      obtain ⟨b, off, rfl, hbw, hcs⟩ := HS.out.pos (by omega)
      have c1 := hcs k (by omega)
      rw [← BB.out.cell (p := ⟨b, off + k, none⟩) hbw] at c1
      have hnext := Ring.next_last R hr1 (l.take k) (l[k]?.getD 0)
      rw [← take_next l k hkl] at hnext
      obtain ⟨x, ex⟩ : ∃ x, x = l[k]?.getD 0 := ⟨_, rfl⟩
      rw [← ex] at c1 hnext
      have hpush := ringI_push RR.out BB.out.size x
      rw [hnext] at hpush
      have HP := Lib.hid hpush
      clear hcs hnext ex hpush
      go_wp2_with fail
      (with_reducible refine HP.out.mono ?_)
      rintro e w3 ⟨rfl, v3, hr3, ht3, _⟩
      have R3 := Lib.hid hr3
      have B3 := Lib.hid (BB.out.trans (RR.out.pushed BB.out.size ht3))
      clear hr3 ht3 HP c1
      go_wp2
      exact ⟨⟨k + 1, v3, by omega, by go_num, R3.out, B3.out⟩, by simp [intOf]; omega⟩
    · obtain rfl : k = n := by omega
      have e0 : l.take k = l := List.take_of_length_le (by have := EN.out; omega)
      rw [e0] at RR
      obtain ⟨L1, eL1⟩ : ∃ L, L = lastN R l := ⟨_, rfl⟩
      have EL1 := Lib.hid eL1
      rw [← eL1] at RR
      clear eL1 e0
      have hcl := ringI_clone RR.out
      have HCL := Lib.hid hcl
      clear hcl
      go_wp2_with fail
      (with_reducible refine HCL.out.mono ?_)
      rintro e w3 ⟨c, u, rfl, hc3, hb3⟩
      have R3 := Lib.hid (RR.out.below hb3)
      have C3 := Lib.hid hc3
      have B3 := Lib.hid (BB.out.trans (hb3.mono BB.out.size))
      have hlo := ringI_listO R3.out
      have HLO := Lib.hid hlo
      clear hc3 hb3 HCL hlo
      go_wp2_with fail
      (with_reducible refine HLO.out.mono ?_)
      rintro e w4 ⟨p1, c1, rfl, hO, hb4⟩
      have T4 : Hid (TwoRings w w4 w.heap.size r v wr.heap.size c u (.slice p1 L1.length c1) R L1 L1) :=
        ⟨R3.out.below hb4, C3.out.below hb4, hO.mono C3.out.lt.1, RR.out.lt.1, RR.out.lt.2, fun k hk e => by have := (hO.lt k e).1; have := C3.out.lt.2 k hk; omega, BB.out.size, B3.out.trans (hb4.mono B3.out.size)⟩
      have T4' : Hid (TwoRings w w4 w.heap.size r v wr.heap.size c u (.slice p1 L1.length c1) R L1 (lastN R (l ++ m.take 0))) := by
        have e0 : lastN R (l ++ m.take 0) = L1 := by rw [EL1.out]; simp
        show TwoRings w w4 w.heap.size r v wr.heap.size c u (.slice p1 L1.length c1) R L1 (lastN R (l ++ m.take 0))
        rw [e0]; exact T4.out
      obtain ⟨Bc, eBc⟩ : ∃ b, b = wr.heap.size := ⟨_, rfl⟩
      rw [← eBc] at T4'
      clear hO hb4 HLO T4 R3 C3 B3 RR BB eBc
      obtain ⟨n1, en1⟩ : ∃ n, n = L1.length := ⟨_, rfl⟩
      rw [← en1] at T4' ⊢
      have EN1 := Lib.hid en1
      clear en1
      go_wp2
      go_loopw [79] (fun i wr => ∃ k u, k ≤ k2 ∧ i = .int .i64 (k : Nat) ∧ TwoRings w wr w.heap.size r v Bc c u (.slice p1 n1 c1) R L1 (lastN R (l ++ m.take k))) (fun i _ => k2 - (intOf i).toNat)
      case atStart => exact ⟨0, _, by omega, rfl, T4'.out⟩
      case round =>
        obtain ⟨j, uu, hj, rfl, hT⟩ := hrel
        have TT := Lib.hid hT
        clear hT T4'
        by_cases hlt2 : j < k2
        · have hkl : j < m.length := by have := EM.out; omega
          obtain ⟨b, off, rfl, hbw, hcs⟩ := HT.out.pos (by omega)
          have a1 := hcs j (by omega)
          rw [← TT.out.below.cell (p := ⟨b, off + j, none⟩) hbw] at a1
          have hnext := Ring.next_last R hr1 (l ++ m.take j) (m[j]?.getD 0)
          rw [List.append_assoc, ← take_next m j hkl] at hnext
          obtain ⟨x, ex⟩ : ∃ x, x = m[j]?.getD 0 := ⟨_, rfl⟩
          rw [← ex] at a1 hnext
          have hpush := ringI_push TT.out.two (by have := TT.out.two.apart.2.1; have := TT.out.two.lt.1; omega) x
          rw [hnext] at hpush
          have HP := Lib.hid hpush
          clear hcs hnext ex hpush
          go_wp2_with fail
          (with_reducible refine HP.out.mono ?_)
          rintro e w5 ⟨rfl, u5, hr5, ht5, hu5⟩
          have T5 := Lib.hid (TT.out.push hr5 ht5 hu5)
          clear hr5 ht5 hu5 HP a1
          go_wp2
          exact ⟨⟨j + 1, u5, by omega, by go_num, T5.out⟩, by simp [intOf]; omega⟩
        · obtain rfl : j = k2 := by omega
          have e0 : m.take j = m := List.take_of_length_le (by have := EM.out; omega)
          rw [e0] at TT
          obtain ⟨L2, eL2⟩ : ∃ L, L = lastN R (l ++ m) := ⟨_, rfl⟩
          rw [← eL2] at TT
          have lL1 : L1.length ≤ 4096 := by rw [EL1.out, lastN_len]; omega
          have lL2 : L2.length ≤ 4096 := by rw [eL2, lastN_len]; omega
          have hpm := HPN.out
          have hqm := HQN.out
          rw [← EN.out] at hpm
          rw [← EM.out] at hqm
          have s1 := fun (pa pb : Option Addr) (ca cb : Nat) (W : World) (h1 : Ints .i64 W pa L1) (h2 : Ints .i64 W pb L1) => ref07_same pa pb ca cb L1 L1 W h1 h2 (by omega) (by omega)
          have s2 := fun (pa pb : Option Addr) (ca cb : Nat) (W : World) (h1 : Ints .i64 W pa L2) (h2 : Ints .i64 W pb L2) => ref07_same pa pb ca cb L2 L2 W h1 h2 (by omega) (by omega)
          rw [show decide (L1 = L1) = true from decide_eq_true rfl, ← EN1.out] at s1
          rw [show decide (L2 = L2) = true from decide_eq_true rfl] at s2
          have f1 := fun (W : World) (h : Ints .i64 W p l) => ref07_last p cap l R (by have := EN.out; omega) (by have := EN.out; omega) (by omega) hr1 W h
          simp only [← EL1.out, ← EN.out, ← EN1.out] at f1
          obtain ⟨lm, elm⟩ : ∃ x, x = l ++ m := ⟨_, rfl⟩
          have ELM := Lib.hid elm
          rw [← elm] at eL2
          have llm : lm.length ≤ 120 := by rw [elm, List.length_append]; have := EN.out; have := EM.out; omega
          have f2 := fun (pa : Option Addr) (ca : Nat) (hca : lm.length ≤ ca) (W : World) (h : Ints .i64 W pa lm) => ref07_last pa ca lm R (by omega) hca (by omega) hr1 W h
          simp only [← eL2] at f2
          have S1 := Lib.hid s1
          have S2 := Lib.hid s2
          have F1 := Lib.hid f1
          have F2 := Lib.hid f2
          have HPM := Lib.hid hpm
          have HQM := Lib.hid hqm
          have LNL : Hid ((intVals l).length = k * 1) := by show _ = _; rw [intVals_len, EN.out]; omega
          have LNM : Hid ((intVals m).length = j * 1) := by show _ = _; rw [intVals_len, EM.out]; omega
          have HW := Lib.hid TT.out.below.size
          have I1 := Lib.hid (Ints.news (Sl.below HS.out TT.out.below))
          have O0 : Hid (Owns wr w.heap.size 1 (.slice none 0 0) 0 []) := owns_nil _ _ _
          clear s1 s2 f1 f2 hpm hqm e0 eL2 elm llm
          go_wp2_with (first
            | (at_builtin; refine wpList_append_any2 rfl _ _ 48 rfl w.heap.size 3 (.int .i64 0) 1 8 Try.underlying48 intInfo rfl (by decide) _ 0 [] rfl O0.out _ _ _ (intVals l) rfl LNL.out HPM.out I1.out (intVals_one l) (by unfold maxLen; omega) (by omega) HW.out ?_; intro u6 w6 ha6 hg6 hw6; have C6 : Below wr.heap.size wr w6 := (Below.refl _ _).grown hg6 (Nat.le_refl _) (fun k hk => by cases (show (none : Option Nat) = some k from hk)); have B6 := TT.out.below.trans (C6.mono HW.out); have I6 := Lib.hid (Ints.news (Sl.below HT.out B6)); have HW6 := Lib.hid B6.size)
            | (at_builtin; refine wpList_append_any2 rfl _ _ 48 rfl w.heap.size 3 (.int .i64 0) 1 8 Try.underlying48 intInfo rfl (by decide) _ _ _ rfl ha6 _ _ _ (intVals m) rfl LNM.out HQM.out I6.out (intVals_one m) (by unfold maxLen; omega) (by omega) HW6.out ?_; intro u7 w7 ha7 hg7 _))
          have C7 : Below wr.heap.size wr w7 := C6.grown hg7 C6.size (fun k hk => by
            rcases hw6 with h | h
            · have := h.symm.trans hk
              cases (show (none : Option Nat) = some k from this)
            · exact h k hk)
          have T7 := Lib.hid (TT.out.call C7)
          have ha8 : Owns w7 w.heap.size 1 u7 lm.length (intVals lm) := by
            rw [ELM.out, intVals_append, List.length_append, ← EN.out, ← EM.out]
            simpa using ha7
          obtain ⟨p7, c7, rfl, hc7, hi7⟩ := ints_of_owns ha8
          have I7 := Lib.hid hi7
          have C8 := Lib.hid hc7
          clear ha6 hg6 hw6 C6 B6 I6 HW6 ha7 hg7 C7 ha8 hc7 hi7 I1 O0 TT
          have hlo := ringI_listO T7.out.one
          rw [← EN1.out] at hlo
          have HLO := Lib.hid hlo
          clear hlo
          go_wp2_with fail
          (with_reducible refine HLO.out.mono ?_)
          rintro e wa ⟨pa, ca, rfl, hOa, hba⟩
          have Ta := Lib.hid (T7.out.call hba)
          have Ia := Lib.hid (Sl.below I7.out hba)
          have hOa' : Ints .i64 wa pa L1 := Owns.ints (by rw [← EN1.out]; exact hOa)
          have WA : Ints .i64 wa p1 L1 := Owns.ints (by rw [← EN1.out]; have := Ta.out.was; rw [← EN1.out] at this; exact this.mono (Nat.le_refl _))
          have Sa := Lib.hid (S1.out pa p1 ca c1 wa hOa' WA)
          clear hOa hba HLO hOa' WA I7 T7
          go_wp2_with fail
          (with_reducible refine Sa.out.mono ?_)
          rintro e wb ⟨rfl, hbb⟩
          have Tb := Lib.hid (Ta.out.call hbb)
          have Ib := Lib.hid (Sl.below Ia.out hbb)
          clear hbb Sa Ta Ia
          have Fb := Lib.hid (F1.out wb (Sl.below HS.out Tb.out.below))
          go_wp2_with fail
          (with_reducible refine Fb.out.mono ?_)
          rintro e wc ⟨qb, cb, rfl, hib, rfl⟩
          have WA : Ints .i64 wb p1 L1 := Owns.ints (by rw [← EN1.out]; have := Tb.out.was; rw [← EN1.out] at this; exact this.mono (Nat.le_refl _))
          have Sb := Lib.hid (S1.out p1 qb c1 cb wb WA hib)
          clear hib WA Fb
          go_wp2_with fail
          (with_reducible refine Sb.out.mono ?_)
          rintro e wd ⟨rfl, hbd⟩
          have Td := Lib.hid (Tb.out.call hbd)
          have Id := Lib.hid (Sl.below Ib.out hbd)
          clear hbd Sb Tb Ib
          have hlo := ringI_listO Td.out.two
          have HLO := Lib.hid hlo
          clear hlo
          go_wp2_with fail
          (with_reducible refine HLO.out.mono ?_)
          rintro e we ⟨pe, ce, rfl, hOe, hbe⟩
          have Te := Lib.hid (Td.out.call hbe)
          have Ie := Lib.hid (Sl.below Id.out hbe)
          have He := Lib.hid (Owns.ints hOe)
          have Fe := Lib.hid (F2.out p7 c7 C8.out we Ie.out)
          clear hOe hbe HLO Td Id
          go_wp2_with fail
          (with_reducible refine Fe.out.mono ?_)
          rintro e wf ⟨qe, ce2, rfl, hie, rfl⟩
          have Se := Lib.hid (S2.out pe qe ce ce2 we He.out hie)
          clear hie Fe He
          go_wp2_with fail
          (with_reducible refine Se.out.mono ?_)
          rintro e wf ⟨rfl, hbf⟩
          have Tf := Lib.hid (Te.out.call hbf)
          have Rf := Lib.hid (ringI_roomOf Tf.out.two)
          clear hbf Se Te
          go_wp2_with ((with_reducible refine Rf.out.mono ?_); rintro e wg ⟨rfl, rfl⟩)
          go_ret
          exact ⟨rfl, Tf.out.below⟩

theorem ringClones_walk (room : Int) (p : Option Addr) (cap : Nat) (l : List Int) (hn : l.length ≤ 9223372036854775807) (hcl : l.length ≤ cap) (hpn : p = none → l.length = 0 ∧ cap = 0) (q : Option Addr) (dap : Nat) (m : List Int) (hm : m.length ≤ 9223372036854775807) (hcm : m.length ≤ dap) (hqn : q = none → m.length = 0 ∧ dap = 0)
    (w : World) (hs : Ints .i64 w p l) (ht : Ints .i64 w q m) :
    Calls Try.prog 10 #[.int .i64 room, .slice p l.length cap, .slice q m.length dap] w fun e w' => e = .returned (.bool true) ∧ Below w.heap.size w w' := by
  by_cases h : 60 < l.length ∨ 60 < m.length
  · exact ringClones_long room p q cap dap _ _ h hn hm w
  by_cases hr : room < 1 ∨ 4096 < room
  · exact ringClones_bad room hr p q cap dap _ _ (by omega) (by omega) w
  obtain ⟨R, rfl⟩ : ∃ R : Nat, room = R := ⟨room.toNat, by omega⟩
  exact ringClones_main R (by omega) (by omega) p q cap dap l m (by omega) (by omega) hcl hcm hpn hqn w hs ht
end Go.Proofs.Ytjbapfdgkaiehaa
