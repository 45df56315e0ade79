/- Layer 9: two of what is told, as one: the law. -/
import Derived.Test.YtdchooggindihaaLaws09c
namespace Go.Proofs.Ytdchooggindihaa
open Go.ChangeShapes Go.WideShapes Go.ChangeAt Go.RowKit

theorem Stat.of_I64 (v : List Int) (hv : ∀ n ∈ v, 0 ≤ n) (hl : v.length ≤ 100000) : I64 (Stat.of v).count ∧ I64 (Stat.of v).sum := by
  by_cases h : v.length = 0
  · rw [Stat.of_nil h]
    unfold I64
    simp
  · rw [Stat.of_some h]
    refine ⟨?_, ?_⟩
    · show I64 (v.length : Int)
      unfold I64
      omega
    · show I64 (Sat.sum v)
      rw [sum_total v hv]
      exact Sat.clamp_I64 _

set_option maxHeartbeats 2000000 in
set_option maxRecDepth 100000 in
theorem windowMerges_walk (p q : Option Addr) (cp cq : Nat) (l m : List Samp) (hl : ∀ a ∈ l, a.In) (hm : ∀ a ∈ m, a.In) (hp : p = none → l.length = 0 ∧ cp = 0) (hq : q = none → m.length = 0 ∧ cq = 0)
    (hb : l.length ≤ 9223372036854775807) (hb2 : m.length ≤ 9223372036854775807) (w : World) (hs : Samps w p l) (ht : Samps w q m) :
    Calls Try.prog 5 #[.slice p l.length cp, .slice q m.length cq] w fun e w' => e = .returned (.bool true) ∧ Below w.heap.size w w' := by
  by_cases h60 : 60 < l.length
  · obtain ⟨n, hn⟩ : ∃ n, n = l.length := ⟨_, rfl⟩
    obtain ⟨k, hk⟩ : ∃ n, n = m.length := ⟨_, rfl⟩
    rw [← hn] at h60 hb
    rw [← hk] at hb2
    simp only [← hn, ← hk]
    clear hp hq hl hm hn hk hs ht
    go_enter Try.func5, Try.ntmps5
    go_wp2_with fail
    (with_reducible refine (awake09 _).mono ?_)
    rintro e w1 ⟨rfl, hb1⟩
    have HB := Lib.hid hb1
    clear hb1
    go_wp2
    go_ret
    exact ⟨rfl, HB.out⟩
  by_cases h61 : 60 < m.length
  · obtain ⟨n, hn⟩ : ∃ n, n = l.length := ⟨_, rfl⟩
    obtain ⟨k, hk⟩ : ∃ n, n = m.length := ⟨_, rfl⟩
    rw [← hn] at h60 hb
    rw [← hk] at h61 hb2
    simp only [← hn, ← hk]
    clear hp hq hl hm hn hk hs ht
    go_enter Try.func5, Try.ntmps5
    go_wp2_with fail
    (with_reducible refine (awake09 _).mono ?_)
    rintro e w1 ⟨rfl, hb1⟩
    have HB := Lib.hid hb1
    clear hb1
    go_wp2
    go_ret
    exact ⟨rfl, HB.out⟩
  have hv1 := Samp.vals_len l
  have hv2 := Samp.vals_len m
  have nn1 := Samp.vals_nn l
  have nn2 := Samp.vals_nn m
  obtain ⟨i1, i2⟩ := Stat.of_I64 (Samp.vals l) nn1 (by omega)
  obtain ⟨i3, i4⟩ := Stat.of_I64 (Samp.vals m) nn2 (by omega)
  have s1 := fun (W : World) (h : Samps W p l) => window_of p cp l hl (by omega) _ rfl W h
  have s2 := fun (W : World) (h : Samps W q m) => window_of q cq m hm (by omega) _ rfl W h
  have mg := fun (W : World) => window_merge (Stat.of (Samp.vals l)) (Stat.of (Samp.vals m)) i1 i3 i2 i4 _ rfl W
  by_cases c1 : l.length = 0
  · have e1 : Stat.of (Samp.vals l) = ⟨0, 0, 0, 0, 0⟩ := Stat.of_nil (by omega)
    simp only [e1] at s1 mg
    have e2 : Stat.merge ⟨0, 0, 0, 0, 0⟩ (Stat.of (Samp.vals m)) = Stat.of (Samp.vals m) := Stat.merge_left (by simp)
    simp only [e2] at mg
    exact merges_left p q cp cq l.length m.length l m _ _ _ _ _ h60 h61 s1 s2 mg w hs ht
  have f1 : Stat.of (Samp.vals l) = ⟨l.length, Sat.sum (Samp.vals l), lmin (Samp.vals l), lmax (Samp.vals l), Wide.up (Bits.total (Samp.vals l)) l.length⟩ := by
    rw [Stat.of_some (by omega), hv1]
  by_cases c2 : m.length = 0
  · have e1 : Stat.of (Samp.vals m) = ⟨0, 0, 0, 0, 0⟩ := Stat.of_nil (by omega)
    simp only [e1] at s2 mg
    have e2 : Stat.merge (Stat.of (Samp.vals l)) ⟨0, 0, 0, 0, 0⟩ = Stat.of (Samp.vals l) := Stat.merge_right (by rw [f1]; show ¬ (l.length : Int) < 1; omega) (by simp)
    simp only [e2] at mg
    simp only [f1] at mg
    simp only [f1] at s1
    exact merges_right p q cp cq l.length m.length l m _ _ _ _ h60 h61 s1 s2 mg (by omega) w hs ht
  have f2 : Stat.of (Samp.vals m) = ⟨m.length, Sat.sum (Samp.vals m), lmin (Samp.vals m), lmax (Samp.vals m), Wide.up (Bits.total (Samp.vals m)) m.length⟩ := by
    rw [Stat.of_some (by omega), hv2]
  have hin := Samp.in_append hl hm
  have n1 : (l ++ m).length = l.length + m.length := List.length_append
  have ez : Stat.merge (Stat.of (Samp.vals l)) (Stat.of (Samp.vals m)) = ⟨(l.length : Int) + m.length, Sat.clamp (Sat.sum (Samp.vals l) + Sat.sum (Samp.vals m)), min (lmin (Samp.vals l)) (lmin (Samp.vals m)), max (lmax (Samp.vals l)) (lmax (Samp.vals m)), Sat.ceil (Sat.clamp (Sat.sum (Samp.vals l) + Sat.sum (Samp.vals m))) ((l.length : Int) + m.length)⟩ := by
    rw [f1, f2, Stat.merge_both (by show ¬ (l.length : Int) < 1; omega) (by show ¬ (m.length : Int) < 1; omega)]
    have : Sat.clamp ((l.length : Int) + m.length) = (l.length : Int) + m.length := Sat.clamp_of ⟨by omega, by omega⟩
    show Stat.mk (Sat.clamp ((l.length : Int) + m.length)) _ _ _ (Sat.ceil _ (Sat.clamp ((l.length : Int) + m.length))) = _
    rw [this]
  have of : decide (Sat.sum (Samp.vals (l ++ m)) = 9223372036854775807) = false → Stat.merge (Stat.of (Samp.vals l)) (Stat.of (Samp.vals m)) = Stat.of (Samp.vals (l ++ m)) := fun h => by
    rw [Samp.vals_append] at h ⊢
    exact Stat.merge_of _ _ nn1 nn2 (fun h => by rw [h] at hv1; simp at hv1; omega) (fun h => by rw [h] at hv2; simp at hv2; omega) (by omega) (of_decide_eq_false h)
  have of2 := fun (h : decide (Sat.sum (Samp.vals (l ++ m)) = 9223372036854775807) = false) (q : Option Addr) (c : Nat) (W : World) (k : Samps W q (l ++ m)) => window_of q c (l ++ m) hin (by omega) _ (of h) W k
  have en := fun (q : Option Addr) (c : Nat) (W : World) (k : Samps W q (l ++ m)) => ref09_ends q c (l ++ m) hin (by omega) W k
  simp only [n1] at of2 en
  simp only [ez] at mg of2
  simp only [f1] at mg s1 i2
  simp only [f2] at mg s2 i4
  exact merges_both p q cp cq l.length m.length l m _ _ _ _ _ _ _ _ _ _ h60 h61 s1 s2 mg (by omega) (by omega) hp hq (sampVals_len l) (sampVals_len m) n1
    (fun W => ref_add _ _ i2 i4 W) (fun W => ref_ceil _ _ (Sat.clamp_I64 _) W) _ en of2 w hs ht
end Go.Proofs.Ytdchooggindihaa
