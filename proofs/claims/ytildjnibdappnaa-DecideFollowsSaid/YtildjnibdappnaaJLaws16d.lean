/- Layer 16: the law, walked: decisions made sample by sample. -/
import Derived.Test.YtildjnibdappnaaJFol3
import Derived.Test.YtildjnibdappnaaJLaws16
namespace Go.Proofs.Ytildjnibdappnaa
open Go.ChangeShapes Go.WideShapes Go.ChangeAt Go.RowKit

theorem follow_of (p : Pol) (hp : p.In) (q : Option Addr) (cap : Nat) (l : List Samp) (hl : ∀ a ∈ l, a.In) (hb : l.length ≤ 1000) (sa ro : Int) (w : World) (hs : Samps w q l) :
    Calls Try.prog 26 #[.agg #[.int .i64 p.mn, .int .i64 p.mx, .int .i64 p.tg, .int .i64 p.tl, .int .i64 p.wi, .int .i64 p.ho], .slice q l.length cap, .int .i64 sa, .int .i64 ro] w fun e w' => ∃ (q' : Option Addr) (c : Nat), e = .returned (.slice q' (Fol.of p l sa ro).length c) ∧ Advs w' q' (Fol.of p l sa ro) ∧ Below w.heap.size w w' := by
  by_cases h : sa < 1 ∨ 256 < sa ∨ ro < 1 ∨ 64 < ro
  · have e0 : Fol.of p l sa ro = [] := if_pos h
    rw [e0]
    exact (follow_none p q l.length cap sa ro h w).mono fun e w' ⟨a, b⟩ => ⟨none, 0, a, .inl rfl, b⟩
  · have e0 : Fol.of p l sa ro = (FS.at p sa.toNat ro.toNat l l.length).out := if_neg h
    have es : sa = (sa.toNat : Int) := by omega
    have er : ro = (ro.toNat : Int) := by omega
    rw [e0]
    have := follow_some p hp q cap l hl hb sa.toNat ro.toNat (by omega) (by omega) (by omega) (by omega) w hs
    rw [← es, ← er] at this
    exact this.mono fun e w' ⟨u, a, b, c⟩ => by
      obtain ⟨q', c', rfl, _, h3⟩ := advs_of_owns b
      exact ⟨q', c', a, h3, c⟩
theorem refFollow_of (p : Pol) (hp : p.In) (q : Option Addr) (cap : Nat) (l : List Samp) (hl : ∀ a ∈ l, a.In) (hb : l.length ≤ 1000) (sa ro : Int) (w : World) (hs : Samps w q l) :
    Calls Try.prog 27 #[.agg #[.int .i64 p.mn, .int .i64 p.mx, .int .i64 p.tg, .int .i64 p.tl, .int .i64 p.wi, .int .i64 p.ho], .slice q l.length cap, .int .i64 sa, .int .i64 ro] w fun e w' => ∃ (q' : Option Addr) (c : Nat), e = .returned (.slice q' (Fol.of p l sa ro).length c) ∧ Advs w' q' (Fol.of p l sa ro) ∧ Below w.heap.size w w' := by
  by_cases h : sa < 1 ∨ 256 < sa ∨ ro < 1 ∨ 64 < ro
  · have e0 : Fol.of p l sa ro = [] := if_pos h
    rw [e0]
    exact (refFollow_none p q l.length cap sa ro h w).mono fun e w' ⟨a, b⟩ => ⟨none, 0, a, .inl rfl, b⟩
  · have e0 : Fol.of p l sa ro = (FS.at p sa.toNat ro.toNat l l.length).out := if_neg h
    have es : sa = (sa.toNat : Int) := by omega
    have er : ro = (ro.toNat : Int) := by omega
    rw [e0]
    have := refFollow_some p hp q cap l hl hb sa.toNat ro.toNat (by omega) (by omega) (by omega) (by omega) w hs
    rw [← es, ← er] at this
    exact this.mono fun e w' ⟨u, a, b, c⟩ => by
      obtain ⟨q', c', rfl, _, h3⟩ := advs_of_owns b
      exact ⟨q', c', a, h3, c⟩
theorem FS.out_le (p : Pol) (sa ro : Nat) (l : List Samp) : (FS.at p sa ro l l.length).out.length ≤ l.length := by
  have h : ∀ k, k ≤ l.length → (FS.at p sa ro l k).out.length ≤ k := by
    intro k
    induction k with
    | zero => intro _; exact Nat.le_of_eq rfl
    | succ k ih =>
      intro hk
      have := ih (by omega)
      rw [FS.at_next p sa ro l k (by omega)]
      unfold FS.step
      split
      · omega
      · split <;> simp <;> omega
  exact h _ (Nat.le_refl _)
theorem Fol.length_le (p : Pol) (l : List Samp) (sa ro : Int) : (Fol.of p l sa ro).length ≤ l.length := by
  unfold Fol.of
  split
  · simp
  · exact FS.out_le _ _ _ _

set_option maxHeartbeats 1000000 in
set_option maxRecDepth 100000 in
theorem decideFollows_walk (p : Pol) (hp : p.In) (q : Option Addr) (cap : Nat) (l : List Samp) (hl : ∀ a ∈ l, a.In) (hb : l.length ≤ 9223372036854775807) (sa ro : Int) (w : World) (hs : Samps w q l) :
    Calls Try.prog 5 #[.agg #[.int .i64 p.mn, .int .i64 p.mx, .int .i64 p.tg, .int .i64 p.tl, .int .i64 p.wi, .int .i64 p.ho], .slice q l.length cap, .int .i64 sa, .int .i64 ro] w fun e w' => e = .returned (.bool true) ∧ Below w.heap.size w w' := by
  obtain ⟨n, en⟩ : ∃ n, n = l.length := ⟨_, rfl⟩
  by_cases h1 : 20 < n
  · have d1 : decide ((20 : Int) < n) = true := decide_eq_true (by omega)
    rw [← en] at hb ⊢
    clear en hs hl
    go_enter Try.func5, Try.ntmps5
    go_wp2_with fail
    (with_reducible refine (awake16 _).mono ?_)
    rintro e w1 ⟨rfl, hb1⟩
    have M1 := Lib.hid (((Mem.start w).alloc (.cells #[.int .i64 p.mn, .int .i64 p.mx, .int .i64 p.tg, .int .i64 p.tl, .int .i64 p.wi, .int .i64 p.ho] 44)).call hb1)
    clear hb1
    go_wp2
    go_ret
    exact ⟨rfl, M1.out.below⟩
  have d1 : decide ((20 : Int) < n) = false := decide_eq_false (by omega)
  have f1 := fun W : World => fun h : Samps W q l => follow_of p hp q cap l hl (by omega) sa ro W h
  have f2 := fun W : World => fun h : Samps W q l => refFollow_of p hp q cap l hl (by omega) sa ro W h
  have hlen := Fol.length_le p l sa ro
  obtain ⟨r, er⟩ : ∃ r, r = Fol.of p l sa ro := ⟨_, rfl⟩
  rw [← er] at hlen
  simp only [← er] at f1 f2
  obtain ⟨m, em⟩ : ∃ n, n = r.length := ⟨_, rfl⟩
  rw [← em] at hlen
  simp only [← em] at f1 f2
  rw [← en] at hb
  simp only [← en] at f1 f2 ⊢
  have EM := Lib.hid em
  have F1 := Lib.hid f1
  have F2 := Lib.hid f2
  have HS := Lib.hid hs
  have HM : Hid (m ≤ 9223372036854775807) := by show _ ≤ _; omega
  clear f1 f2 hs em en hl hp er hlen
  go_enter Try.func5, Try.ntmps5
  go_wp2_with fail
  (with_reducible refine (awake16 _).mono ?_)
  rintro e w1 ⟨rfl, hb1⟩
  have M1 := Lib.hid (((Mem.start w).alloc (.cells #[.int .i64 p.mn, .int .i64 p.mx, .int .i64 p.tg, .int .i64 p.tl, .int .i64 p.wi, .int .i64 p.ho] 44)).call hb1)
  have K0 := Lib.hid (M1.out.heap 0 rfl)
  clear hb1
  go_wp2_with ((with_reducible refine wpList_load_rowAs rfl 44 _ rfl (w.heap.size) ?_ 44 #[.int .i64 p.mn, .int .i64 p.mx, .int .i64 p.tg, .int .i64 p.tl, .int .i64 p.wi, .int .i64 p.ho] (0, 0) _ 6 ?_ Try.underlying44 rfl (by kernel_rfl) ?_ ?_); exact rfl; exact K0.out; exact rfl)
  (with_reducible refine (F1.out _ (HS.out.below M1.out.below)).mono ?_)
  rintro e w2 ⟨q2, c2, rfl, hs2, hb2⟩
  have M2 := Lib.hid (M1.out.call hb2)
  have A2 := Lib.hid hs2
  have K2 := Lib.hid (M2.out.heap 0 rfl)
  clear hb2 hs2 M1 K0
  go_wp2_with ((with_reducible refine wpList_load_rowAs rfl 44 _ rfl (w.heap.size) ?_ 44 #[.int .i64 p.mn, .int .i64 p.mx, .int .i64 p.tg, .int .i64 p.tl, .int .i64 p.wi, .int .i64 p.ho] (0, 0) _ 6 ?_ Try.underlying44 rfl (by kernel_rfl) ?_ ?_); exact rfl; exact K2.out; exact rfl)
  (with_reducible refine (F2.out _ (HS.out.below M2.out.below)).mono ?_)
  rintro e w3 ⟨q3, c3, rfl, hs3, hb3⟩
  have M3 := Lib.hid (M2.out.call hb3)
  have A3 := Lib.hid hs3
  have A2' := Lib.hid (A2.out.below hb3)
  clear hb3 hs3 M2 K2
  go_wp2_with fail
  (with_reducible refine (ref14_same q2 q3 m c2 c3 r EM.out.symm HM.out _ A2'.out A3.out).mono ?_)
  rintro e w4 ⟨rfl, hb4⟩
  have B4 := Lib.hid (M3.out.call hb4).below
  clear hb4
  go_wp2
  go_ret
  exact ⟨rfl, B4.out⟩
end Go.Proofs.Ytildjnibdappnaa
