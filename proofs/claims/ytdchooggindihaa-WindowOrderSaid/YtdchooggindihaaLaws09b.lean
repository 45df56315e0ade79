/- Layer 9: order, and two as one; walked. -/
import Derived.Test.YtdchooggindihaaLaws09
import Derived.Test.YtdchooggindihaaStat6
namespace Go.Proofs.Ytdchooggindihaa
open Go.ChangeShapes Go.WideShapes Go.ChangeAt Go.RowKit

theorem Samp.vals_append (l m : List Samp) : Samp.vals (l ++ m) = Samp.vals l ++ Samp.vals m := by unfold Samp.vals; rw [List.map_append]
theorem Samp.in_append {l m : List Samp} (hl : ∀ a ∈ l, a.In) (hm : ∀ a ∈ m, a.In) : ∀ a ∈ l ++ m, a.In := fun a ha => by
  rcases List.mem_append.1 ha with h | h
  · exact hl a h
  · exact hm a h

set_option maxHeartbeats 2000000 in
set_option maxRecDepth 100000 in
theorem windowOrder_walk (p q : Option Addr) (cp cq : Nat) (l m : List Samp) (hl : ∀ a ∈ l, a.In) (hm : ∀ a ∈ m, a.In) (hp : p = none → l.length = 0 ∧ cp = 0) (hq : q = none → m.length = 0 ∧ cq = 0)
    (hb : l.length ≤ 9223372036854775807) (hb2 : m.length ≤ 9223372036854775807) (w : World) (hs : Samps w p l) (ht : Samps w q m) :
    Calls Try.prog 4 #[.slice p l.length cp, .slice q m.length cq] w fun e w' => e = .returned (.bool true) ∧ Below w.heap.size w w' := by
  have nl := sampVals_len l
  have nm := sampVals_len m
  have hin1 := Samp.in_append hl hm
  have hin2 := Samp.in_append hm hl
  have n1 : (l ++ m).length = l.length + m.length := List.length_append
  have n2 : (m ++ l).length = m.length + l.length := List.length_append
  have e0 : Stat.of (Samp.vals (l ++ m)) = Stat.of (Samp.vals (m ++ l)) := by
    rw [Samp.vals_append, Samp.vals_append]
    exact Stat.swap _ _ (Samp.vals_nn l) (Samp.vals_nn m)
  have s1 := fun (hle : l.length + m.length ≤ 100000) (q : Option Addr) (c : Nat) (W : World) (h : Samps W q (l ++ m)) => window_of q c (l ++ m) hin1 (by omega) _ rfl W h
  have s2 := fun (hle : l.length + m.length ≤ 100000) (q : Option Addr) (c : Nat) (W : World) (h : Samps W q (m ++ l)) => window_of q c (m ++ l) hin2 (by omega) _ e0 W h
  obtain ⟨x, ex⟩ : ∃ x, x = Stat.of (Samp.vals (l ++ m)) := ⟨_, rfl⟩
  simp only [← ex, n1] at s1
  simp only [← ex, n2] at s2
  have a1 := sampVals_append l m
  have a2 := sampVals_append m l
  have o1 := sampVals_one l
  have o2 := sampVals_one m
  obtain ⟨n, hn⟩ : ∃ n, n = l.length := ⟨_, rfl⟩
  obtain ⟨k, hk⟩ : ∃ n, n = m.length := ⟨_, rfl⟩
  rw [← hn, ← hk] at n1 n2
  rw [← hn] at nl hp hb
  rw [← hk] at nm hq hb2
  simp only [← hn, ← hk] at s1 s2 ⊢
  by_cases h60 : 60 < n
  · clear s1 s2 a1 a2 o1 o2 nl nm hp hq n1 n2 e0 ex hin1 hin2 hl hm hn hk hs ht
    go_enter Try.func4, Try.ntmps4
    go_wp2_with fail
    (with_reducible refine (awake09 _).mono ?_)
    rintro e w1 ⟨rfl, hb1⟩
    have HB := Lib.hid hb1
    clear hb1
    go_wp2
    go_ret
    exact ⟨rfl, HB.out⟩
  by_cases h61 : 60 < k
  · clear s1 s2 a1 a2 o1 o2 nl nm hp hq n1 n2 e0 ex hin1 hin2 hl hm hn hk hs ht
    go_enter Try.func4, Try.ntmps4
    go_wp2_with fail
    (with_reducible refine (awake09 _).mono ?_)
    rintro e w1 ⟨rfl, hb1⟩
    have HB := Lib.hid hb1
    clear hb1
    go_wp2
    go_ret
    exact ⟨rfl, HB.out⟩
  have S1 := Lib.hid (s1 (by omega))
  have S2 := Lib.hid (s2 (by omega))
  have A1 := Lib.hid a1
  have A2 := Lib.hid a2
  have O1 := Lib.hid o1
  have O2 := Lib.hid o2
  have NL := Lib.hid nl
  have NM := Lib.hid nm
  have HP := Lib.hid hp
  have HQ := Lib.hid hq
  have N1 := Lib.hid n1
  have N2 := Lib.hid n2
  have HS := Lib.hid hs
  have HT := Lib.hid ht
  clear s1 s2 a1 a2 o1 o2 nl nm hp hq n1 n2 e0 ex hin1 hin2 hl hm hn hk hs ht hb hb2
  go_enter Try.func4, Try.ntmps4
  go_wp2_with fail
  (with_reducible refine (awake09 _).mono ?_)
  rintro e w1 ⟨rfl, hb1⟩
  have HB := Lib.hid hb1
  clear hb1
  have h0 : Owns w1 w.heap.size 2 (.slice none 0 0) 0 [] := owns_nil _ _ _
  have H0 := Lib.hid h0
  clear h0
  go_wp2_with (first
    | ((at_builtin; refine wpList_append_any rfl _ _ 22 rfl _ 74 (.agg #[.int .i64 0, .int .i64 0]) 2 16 Try.underlying22 sampInfo rfl (by decide) _ _ _ rfl (H0.out) (p) (n) (cp) (sampVals l) rfl (NL.out) (HP.out) ((HS.out.below HB.out).news) (O1.out) (by unfold maxLen; omega) (by omega) (HB.out.size) ?_; intro u1 x1 ha1 hg1); have hb2 := HB.out.grown hg1 HB.out.size (fun k hk => (H0.out.lt k hk).1); rw [Nat.zero_add, List.nil_append] at ha1; have HA := Lib.hid ha1; have HB2 := Lib.hid hb2; clear ha1 hg1 hb2 H0 HB)
    | ((at_builtin; refine wpList_append_any rfl _ _ 22 rfl _ 74 (.agg #[.int .i64 0, .int .i64 0]) 2 16 Try.underlying22 sampInfo rfl (by decide) _ _ _ rfl (HA.out) (q) (k) (cq) (sampVals m) rfl (NM.out) (HQ.out) ((HT.out.below HB2.out).news) (O2.out) (by unfold maxLen; omega) (by omega) (HB2.out.size) ?_; intro u1 x1 ha1 hg1); have hb3 := HB2.out.grown hg1 HB2.out.size (fun k hk => (HA.out.lt k hk).1); rw [← A1.out, ← N1.out] at ha1; obtain ⟨q1, c1, rfl, _, hq1⟩ := samps_of_owns ha1; rw [N1.out]; have HWZ := Lib.hid hb3; have HQ1 := Lib.hid hq1; have h0 : Owns x1 x1.heap.size 2 (.slice none 0 0) 0 [] := owns_nil _ _ _; have G0 := Lib.hid h0; have hz := Below.refl x1.heap.size x1; have HZ := Lib.hid hz; clear ha1 hg1 hb3 hq1 HA HB2 h0 hz)
    | ((at_builtin; refine wpList_append_any rfl _ _ 22 rfl _ 74 (.agg #[.int .i64 0, .int .i64 0]) 2 16 Try.underlying22 sampInfo rfl (by decide) _ _ _ rfl (G0.out) (q) (k) (cq) (sampVals m) rfl (NM.out) (HQ.out) ((HT.out.below HWZ.out).news) (O2.out) (by unfold maxLen; omega) (by omega) (HZ.out.size) ?_; intro u1 x1 ha1 hg1); have hb4 := HZ.out.grown hg1 HZ.out.size (fun k hk => (G0.out.lt k hk).1); rw [Nat.zero_add, List.nil_append] at ha1; have GA := Lib.hid ha1; have HB4 := Lib.hid hb4; clear ha1 hg1 hb4 G0 HZ)
    | ((at_builtin; refine wpList_append_any rfl _ _ 22 rfl _ 74 (.agg #[.int .i64 0, .int .i64 0]) 2 16 Try.underlying22 sampInfo rfl (by decide) _ _ _ rfl (GA.out) (p) (n) (cp) (sampVals l) rfl (NL.out) (HP.out) (((HS.out.below HWZ.out).below HB4.out).news) (O1.out) (by unfold maxLen; omega) (by omega) (HB4.out.size) ?_; intro u1 x1 ha1 hg1); have hb5 := HB4.out.grown hg1 HB4.out.size (fun k hk => (GA.out.lt k hk).1); rw [← A2.out, ← N2.out] at ha1; obtain ⟨q2, c2, rfl, _, hq2⟩ := samps_of_owns ha1; rw [N2.out]; have HQ2 := Lib.hid hq2; have hq1 := HQ1.out.below hb5; have HQ3 := Lib.hid hq1; have hw5 := HWZ.out.trans (hb5.mono HWZ.out.size); have HW5 := Lib.hid hw5; clear ha1 hg1 hb5 hq2 hq1 hw5 HWZ HQ1 GA HB4)
    | fail)
  (with_reducible refine (S1.out _ _ _ HQ3.out).mono ?_)
  rintro e wa ⟨rfl, hba⟩
  have hq2 := HQ2.out.below hba
  have HQ4 := Lib.hid hq2
  have hwa := HW5.out.trans (hba.mono HW5.out.size)
  have HWA := Lib.hid hwa
  clear hba hq2 hwa HQ2 HQ3 HW5
  go_wp2_with fail
  (with_reducible refine (S2.out _ _ _ HQ4.out).mono ?_)
  rintro e wb ⟨rfl, hbb⟩
  have hwb := HWA.out.trans (hbb.mono HWA.out.size)
  have HWB := Lib.hid hwb
  clear hbb hwb HQ4 HWA
  go_wp2
  go_ret
  exact ⟨rfl, HWB.out⟩
end Go.Proofs.Ytdchooggindihaa
