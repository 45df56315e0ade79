/- Layer 51: what everybody has, or why nothing is shared: the law, walked. -/
import Derived.Test.YtcanbagnehdbiaaJBud4
namespace Go.Proofs.Ytcanbagnehdbiaa
open Go.ChangeShapes Go.WideShapes Go.ChangeAt Go.RowKit

theorem wantInfo : (Try.prog.info? 116).map (fun i => (i.zero, i.size, i.bytes)) = some (some (.agg #[.int .i64 0, .int .i64 0]), 2, 16) := by kernel_rfl

set_option maxHeartbeats 1000000 in
set_option maxRecDepth 100000 in
theorem law51_wants (p : Option Addr) (cap : Nat) (l : List Samp) (hb : l.length ≤ 100000) (w : World) (hs : Samps w p l) :
    Calls Try.prog 22 #[.slice p l.length cap] w fun e w' => ∃ q c, e = .returned (.slice q l.length c) ∧ Samps w' q l ∧ Below w.heap.size w w' := by
  have HS := Lib.hid hs
  have HN := Lib.hid (fun (k : Nat) (h : k < l.length) => show sampVals (l.take (k + 1)) = sampVals (l.take k) ++ [.int .i64 (l[k]?.getD default).tick, .int .i64 (l[k]?.getD default).val] by
    rw [List.take_succ_eq_append_getElem h, sampVals_append, List.getElem?_eq_getElem h]; rfl)
  have HE : Hid (sampVals (l.take l.length) = sampVals l) := by show _ = _; rw [List.take_length]
  obtain ⟨f, ef⟩ : ∃ f, f = fun k => sampVals (l.take k) := ⟨_, rfl⟩
  have HN2 : Hid (∀ k, k < l.length → f (k + 1) = f k ++ [.int .i64 (l[k]?.getD default).tick, .int .i64 (l[k]?.getD default).val]) := by rw [ef]; exact HN.out
  have HE2 : Hid (f l.length = sampVals l) := by rw [ef]; exact HE.out
  have HZ2 : Hid (f 0 = []) := by rw [ef]; rfl
  obtain ⟨n, en⟩ : ∃ n, n = l.length := ⟨_, rfl⟩
  have EN := Lib.hid en
  rw [← en] at hb HE2 ⊢
  clear hs en ef HN HE
  go_enter Try.func22, Try.ntmps22
  go_wp2
  go_loopw [3, 8] (fun o i wr => ∃ k : Nat, k ≤ n ∧ i = .int .i64 (k : Nat) ∧ Owns wr w.heap.size 2 o k (f k) ∧ Below w.heap.size w wr) (fun _ i _ => n - (intOf i).toNat)
  case atStart => exact ⟨0, by omega, rfl, by rw [HZ2.out]; exact owns_nil _ _ _, Below.refl _ _⟩
  case round =>
    obtain ⟨k, hk, rfl, hO, hB⟩ := hrel
    by_cases hlt : k < n
    · have hkl : k < l.length := by have := EN.out; omega
      obtain ⟨b, off, rfl, hbw, _⟩ := HS.out.cells k hkl
      obtain ⟨c0, c1⟩ := HS.out.bc k hkl wr hB
      have hn := HN2.out k hkl
      obtain ⟨⟨a0, a1⟩, ea⟩ : ∃ a, a = l[k]?.getD default := ⟨_, rfl⟩
      rw [← ea] at c0 c1 hn
      simp only at c0 c1 hn
      obtain ⟨xs, exs⟩ : ∃ s, s = f k := ⟨_, rfl⟩
      rw [← exs] at hn hO
      have HN3 := Lib.hid hn
      have HO := Lib.hid (hO.below (below1 wr (.cells #[.int .i64 a0, .int .i64 a1] 49)))
      have HB := Lib.hid (hB.alloc hB.size (.cells #[.int .i64 a0, .int .i64 a1] 49))
      have K0 := Lib.hid (heap_alloc_at wr (.cells #[.int .i64 a0, .int .i64 a1] 49) wr.heap.size rfl)
      have hkn : (k : Int) < n := by omega
      have hBW := HB.out
      clear hO hB ea exs hn hkl
      go_wp2_with (first | ((with_reducible refine wpList_load_rowAs rfl 49 _ rfl (wr.heap.size) ?_ 49 #[.int .i64 a0, .int .i64 a1] (0, 0) _ 2 ?_ Try.underlying49 rfl (by kernel_rfl) ?_ ?_); exact rfl; exact K0.out; exact rfl) | (at_builtin; refine wpList_append_new rfl _ _ 41 rfl _ _ 116 rfl _ 116 (.agg #[.int .i64 0, .int .i64 0]) 2 16 Try.underlying41 wantInfo rfl (by decide) _ _ _ rfl (HO.out) (by first | rfl | (rw [World.size_alloc]; rfl)) rfl (by first | (simp [Value.oneCell']; done) | (intro u hu; simp at hu; subst hu; rfl)) (by unfold maxLen; omega) (by omega) (Below.size (by assumption)) ?_; intro u1 x1 ha1 hg1 hc1))
      exact ⟨⟨k + 1, by omega, by go_num, by rw [HN3.out]; exact ha1, HB.out.trans hc1⟩, by simp [intOf]; omega⟩
    · obtain rfl : k = n := by omega
      rw [HE2.out, EN.out] at hO
      obtain ⟨q, c, rfl, _, hs2⟩ := samps_of_owns hO
      rw [← EN.out]
      have HF := Lib.hid (And.intro hs2 hB)
      clear hO hs2 hB
      go_wp2
      go_ret
      exact ⟨q, c, rfl, HF.out.1, HF.out.2⟩

set_option maxHeartbeats 1000000 in
set_option maxRecDepth 100000 in
theorem awake51 (w : World) : Calls Try.prog 20 #[] w fun e w' => e = .returned (.bool true) ∧ Below w.heap.size w w' := by
  have h1 : ∀ W : World, Calls Try.prog 21 #[.int .i64 5, .slice (some ⟨W.heap.size, 0, none⟩) 2 2] (W.alloc (.cells #[.int .i64 0, .int .i64 4, .int .i64 0, .int .i64 2] 116)) fun e w' => ∃ q c, e = .returned (.tuple #[.slice q 2 c, .int .i64 0]) ∧ Ints .i64 w' q [4, 1] ∧ Below W.heap.size W w' := by
    intro W
    have := budget_share 5 (some ⟨W.heap.size, 0, none⟩) 2 [⟨0, 4⟩, ⟨0, 2⟩] (by intro a ha; simp at ha; unfold Samp.In I64; rcases ha with rfl | rfl <;> simp) (by decide +kernel) _ (samps_alloc W [⟨0, 4⟩, ⟨0, 2⟩] 116 _ rfl)
    rw [show Bud.share 5 [⟨0, 4⟩, ⟨0, 2⟩] = [4, 1] by decide +kernel] at this
    refine this.mono ?_
    rintro e w' ⟨u, he, ho, hb⟩
    obtain ⟨q, c, rfl, _, hi⟩ := ints_of_owns (l := [4, 1]) ho
    exact ⟨q, c, he, hi, (below1 W _).trans (hb.mono (by simp))⟩
  have h2 : ∀ W : World, Calls Try.prog 21 #[.int .i64 1, .slice (some ⟨W.heap.size, 0, none⟩) 2 2] (W.alloc (.cells #[.int .i64 1, .int .i64 1, .int .i64 1, .int .i64 1] 116)) fun e w' => e = .returned (.tuple #[.slice none 0 0, .int .i64 12]) ∧ Below W.heap.size W w' := by
    intro W
    have := budget_share_bad 1 (some ⟨W.heap.size, 0, none⟩) 2 [⟨1, 1⟩, ⟨1, 1⟩] (by intro a ha; simp at ha; unfold Samp.In I64; subst ha; simp) (by simp) (by decide +kernel) _ (samps_alloc W [⟨1, 1⟩, ⟨1, 1⟩] 116 _ rfl)
    rw [show Bud.check 1 [⟨1, 1⟩, ⟨1, 1⟩] = 12 by decide +kernel] at this
    exact this.mono fun e w' ⟨a, b⟩ => ⟨a, (below1 W _).trans (b.mono (by simp))⟩
  have h3 : ∀ (q : Option Addr) (c : Nat) (W : World), Ints .i64 W q [4, 1] → Calls Try.prog 25 #[.slice q 2 c, .slice (some ⟨W.heap.size, 0, none⟩) 2 2] (W.alloc (.cells #[.int .i64 4, .int .i64 1] 2)) fun e w' => e = .returned (.bool true) ∧ Below W.heap.size W w' := by
    intro q c W h
    have := ref_same q (some ⟨W.heap.size, 0, none⟩) c 2 [4, 1] [4, 1] (W.alloc (.cells #[.int .i64 4, .int .i64 1] 2)) (Sl.below h (below1 W _)) (ints_alloc W [4, 1] 2 _ rfl) (by simp) (by simp)
    rw [show decide (([4, 1] : List Int) = [4, 1]) = true by decide] at this
    exact this.mono fun e w' ⟨a, b⟩ => ⟨a, (below1 W _).trans (b.mono (by simp))⟩
  have H1 := Lib.hid h1
  have H2 := Lib.hid h2
  have H3 := Lib.hid h3
  clear h1 h2 h3
  go_enter Try.func20, Try.ntmps20
  go_wp2_with fail
  (with_reducible refine (H1.out _).mono ?_)
  rintro e w1 ⟨q, c, rfl, hi, hb1⟩
  have M1 := Lib.hid ((Mem.start w).call hb1)
  have I1 := Lib.hid hi
  clear hb1 hi H1
  go_wp2_with fail
  (with_reducible refine (H2.out _).mono ?_)
  rintro e w2 ⟨rfl, hb2⟩
  have M2 := Lib.hid (M1.out.call hb2)
  have I2 : Hid (Ints .i64 w2 q [4, 1]) := Sl.below I1.out hb2
  clear hb2 H2 M1 I1
  go_wp2_with fail
  (with_reducible refine (H3.out q c _ I2.out).mono ?_)
  rintro e w3 ⟨rfl, hb3⟩
  have M3 := Lib.hid (M2.out.call hb3)
  clear hb3 H3 M2
  go_wp2
  go_ret
  exact ⟨rfl, M3.out.below⟩

set_option maxHeartbeats 2000000 in
set_option maxRecDepth 100000 in
theorem budgetShares_walk (total : Int) (p : Option Addr) (cap : Nat) (l : List Samp) (hl : ∀ a ∈ l, a.In) (hb : l.length ≤ 9223372036854775807) (w : World) (hs : Samps w p l) :
    Calls Try.prog 5 #[.int .i64 total, .slice p l.length cap] w fun e w' => e = .returned (.bool true) ∧ Below w.heap.size w w' := by
  obtain ⟨n, en⟩ : ∃ n, n = l.length := ⟨_, rfl⟩
  by_cases h70 : 70 < n
  · have d1 : decide ((70 : Int) < n) = true := decide_eq_true (by omega)
    rw [← en] at hb ⊢
    clear en hs hl
    go_enter Try.func5, Try.ntmps5
    go_wp2_with fail
    (with_reducible refine (awake51 _).mono ?_)
    rintro e w1 ⟨rfl, hb1⟩
    have M1 := Lib.hid ((Mem.start w).call hb1)
    clear hb1
    go_wp2
    go_ret
    exact ⟨rfl, M1.out.below⟩
  have d1 : decide ((70 : Int) < n) = false := decide_eq_false (by omega)
  by_cases h200 : 200 < total ∧ total ≤ 4096
  · obtain ⟨g1, g2⟩ := h200
    have d2 : decide (200 < total) = true := decide_eq_true g1
    have d3 : decide (total ≤ 4096) = true := decide_eq_true g2
    rw [← en] at hb ⊢
    clear en hs hl
    go_enter Try.func5, Try.ntmps5
    go_wp2_with fail
    (with_reducible refine (awake51 _).mono ?_)
    rintro e w1 ⟨rfl, hb1⟩
    have M1 := Lib.hid ((Mem.start w).call hb1)
    clear hb1
    go_wp2
    go_ret
    exact ⟨rfl, M1.out.below⟩
  have f1 := fun W : World => fun h : Samps W p l => law51_wants p cap l (by omega) W h
  have f2 := fun (q : Option Addr) (c : Nat) (W : World) (h : Samps W q l) => budget_check total q c l hl hb W h
  have f3 := fun W : World => fun h : Samps W p l => ref51_check total p cap l hl hb W h
  have f4 := fun (hc : Bud.check total l ≠ 0) (q : Option Addr) (c : Nat) (W : World) (h : Samps W q l) => budget_share_bad total q c l hl hb hc W h
  have f5 := fun (hc : Bud.check total l = 0) (q : Option Addr) (c : Nat) (W : World) (h : Samps W q l) => budget_share total q c l hl hc W h
  have f6 := fun (hc : Bud.check total l = 0) (W : World) (h : Samps W p l) => ref51_share total p cap l hl hc W h
  have hshl : Bud.check total l = 0 → (Bud.share total l).length = l.length := fun hc => by
    have hok := Bud.ok_mins hc hl
    have key : ∀ k h, Bud.Ok l h → (Bud.run l k h).length = l.length := by
      intro k
      induction k with
      | zero => intro h ho; exact ho.1
      | succ k ih =>
        intro h ho
        unfold Bud.run
        rcases Bud.who_spec (l := l) (h := h) with ⟨hw, _⟩ | ⟨j, hj, hw, hlack, _⟩
        · rw [if_pos (by omega)]; exact ho.1
        · rw [if_neg (by omega), hw, Int.toNat_natCast]
          exact ih _ (Bud.ok_give ho hj hlack)
    exact key _ _ hok
  obtain ⟨S, eS⟩ : ∃ S, S = Bud.share total l := ⟨_, rfl⟩
  rw [← eS] at hshl
  simp only [← eS] at f5 f6
  obtain ⟨cd, ecd⟩ : ∃ S, S = Bud.check total l := ⟨_, rfl⟩
  rw [← ecd] at hshl
  simp only [← ecd] at f2 f3 f4 f5 f6
  rw [← en] at hb hshl
  simp only [← en] at f1 f2 f3 f4 f5 f6 ⊢
  have F1 := Lib.hid f1
  have F2 := Lib.hid f2
  have F3 := Lib.hid f3
  have HS := Lib.hid hs
  have hgd : Hid (¬ (200 < total ∧ total ≤ 4096)) := h200
  clear f1 f2 f3 hs en eS ecd hl h200 h70
  by_cases hc : cd = 0
  · have F5 := Lib.hid (f5 hc)
    have F6 := Lib.hid (f6 hc)
    have hsl := hshl hc
    have SL := Lib.hid hsl
    subst hc
    clear f4 f5 f6 hshl hsl
    by_cases g200 : 200 < total
    · have g4 : 4096 < total := by have := hgd.out; omega
      have e1 : decide (200 < total) = true := decide_eq_true g200
      have e2 : decide (total ≤ 4096) = false := decide_eq_false (by omega)
      go_enter Try.func5, Try.ntmps5
      go_wp2_with fail
      (with_reducible refine (awake51 _).mono ?_)
      rintro e w1 ⟨rfl, hb1⟩
      have B1 := Lib.hid hb1
      clear hb1
      go_wp2_with fail
      (with_reducible refine (F1.out _ (HS.out.below B1.out)).mono ?_)
      rintro e w2 ⟨q, c, rfl, hs2, hb2⟩
      have B2 := Lib.hid (B1.out.trans (hb2.mono B1.out.size))
      have S2 := Lib.hid hs2
      clear hs2 hb2 B1
      go_wp2_with fail
      (with_reducible refine (F5.out q c _ S2.out).mono ?_)
      rintro e w3 ⟨u, rfl, ho, hb3⟩
      rw [← SL.out] at ho
      obtain ⟨p3, c3, rfl, _, hi3⟩ := ints_of_owns ho
      have B3 := Lib.hid (B2.out.trans (hb3.mono B2.out.size))
      have I3 := Lib.hid hi3
      clear ho hi3 hb3 B2 S2 F5
      go_wp2_with fail
      (with_reducible refine (F3.out _ (HS.out.below B3.out)).mono ?_)
      rintro e w4 ⟨rfl, hb4⟩
      have B4 := Lib.hid (B3.out.trans (hb4.mono B3.out.size))
      have I4 := Lib.hid (Sl.below I3.out hb4)
      clear hb4 B3 I3
      go_wp2_with fail
      (with_reducible refine (F1.out _ (HS.out.below B4.out)).mono ?_)
      rintro e w5 ⟨q5, c5, rfl, hs5, hb5⟩
      have B5 := Lib.hid (B4.out.trans (hb5.mono B4.out.size))
      have I5 := Lib.hid (Sl.below I4.out hb5)
      have S5 := Lib.hid hs5
      clear hs5 hb5 B4 I4
      go_wp2_with fail
      (with_reducible refine (F2.out q5 c5 _ S5.out).mono ?_)
      rintro e w6 ⟨rfl, hb6⟩
      have B6 := Lib.hid (B5.out.trans (hb6.mono B5.out.size))
      have I6 := Lib.hid (Sl.below I5.out hb6)
      clear hb6 B5 I5 S5
      go_wp2_with fail
      (with_reducible refine (F6.out _ (HS.out.below B6.out)).mono ?_)
      rintro e w7 ⟨u7, rfl, ho7, hb7⟩
      rw [← SL.out] at ho7
      obtain ⟨p7, c7, rfl, _, hi7⟩ := ints_of_owns ho7
      have B7 := Lib.hid (B6.out.trans (hb7.mono B6.out.size))
      have P := Lib.hid (ref_same p3 p7 c3 c7 S S w7 (Sl.below I6.out hb7) hi7 (by have := SL.out; omega) (by have := SL.out; omega))
      rw [show decide (S = S) = true from decide_eq_true rfl] at P
      clear ho7 hi7 hb7 B6 I6 F6
      go_wp2_with fail
      (with_reducible refine P.out.mono ?_)
      rintro e w8 ⟨rfl, hb8⟩
      have B8 := Lib.hid (B7.out.trans (hb8.mono B7.out.size))
      clear hb8 P B7
      go_wp2
      go_ret
      exact ⟨rfl, B8.out⟩
    · have e1 : decide (200 < total) = false := decide_eq_false g200
      go_enter Try.func5, Try.ntmps5
      go_wp2_with fail
      (with_reducible refine (awake51 _).mono ?_)
      rintro e w1 ⟨rfl, hb1⟩
      have B1 := Lib.hid hb1
      clear hb1
      go_wp2_with fail
      (with_reducible refine (F1.out _ (HS.out.below B1.out)).mono ?_)
      rintro e w2 ⟨q, c, rfl, hs2, hb2⟩
      have B2 := Lib.hid (B1.out.trans (hb2.mono B1.out.size))
      have S2 := Lib.hid hs2
      clear hs2 hb2 B1
      go_wp2_with fail
      (with_reducible refine (F5.out q c _ S2.out).mono ?_)
      rintro e w3 ⟨u, rfl, ho, hb3⟩
      rw [← SL.out] at ho
      obtain ⟨p3, c3, rfl, _, hi3⟩ := ints_of_owns ho
      have B3 := Lib.hid (B2.out.trans (hb3.mono B2.out.size))
      have I3 := Lib.hid hi3
      clear ho hi3 hb3 B2 S2 F5
      go_wp2_with fail
      (with_reducible refine (F3.out _ (HS.out.below B3.out)).mono ?_)
      rintro e w4 ⟨rfl, hb4⟩
      have B4 := Lib.hid (B3.out.trans (hb4.mono B3.out.size))
      have I4 := Lib.hid (Sl.below I3.out hb4)
      clear hb4 B3 I3
      go_wp2_with fail
      (with_reducible refine (F1.out _ (HS.out.below B4.out)).mono ?_)
      rintro e w5 ⟨q5, c5, rfl, hs5, hb5⟩
      have B5 := Lib.hid (B4.out.trans (hb5.mono B4.out.size))
      have I5 := Lib.hid (Sl.below I4.out hb5)
      have S5 := Lib.hid hs5
      clear hs5 hb5 B4 I4
      go_wp2_with fail
      (with_reducible refine (F2.out q5 c5 _ S5.out).mono ?_)
      rintro e w6 ⟨rfl, hb6⟩
      have B6 := Lib.hid (B5.out.trans (hb6.mono B5.out.size))
      have I6 := Lib.hid (Sl.below I5.out hb6)
      clear hb6 B5 I5 S5
      go_wp2_with fail
      (with_reducible refine (F6.out _ (HS.out.below B6.out)).mono ?_)
      rintro e w7 ⟨u7, rfl, ho7, hb7⟩
      rw [← SL.out] at ho7
      obtain ⟨p7, c7, rfl, _, hi7⟩ := ints_of_owns ho7
      have B7 := Lib.hid (B6.out.trans (hb7.mono B6.out.size))
      have P := Lib.hid (ref_same p3 p7 c3 c7 S S w7 (Sl.below I6.out hb7) hi7 (by have := SL.out; omega) (by have := SL.out; omega))
      rw [show decide (S = S) = true from decide_eq_true rfl] at P
      clear ho7 hi7 hb7 B6 I6 F6
      go_wp2_with fail
      (with_reducible refine P.out.mono ?_)
      rintro e w8 ⟨rfl, hb8⟩
      have B8 := Lib.hid (B7.out.trans (hb8.mono B7.out.size))
      clear hb8 P B7
      go_wp2
      go_ret
      exact ⟨rfl, B8.out⟩
  · have F4 := Lib.hid (f4 hc)
    have hcb : (cd == 0) = false := beq_eq_false_iff_ne.2 hc
    clear f4 f5 f6 hshl
    by_cases g200 : 200 < total
    · have g4 : 4096 < total := by have := hgd.out; omega
      have e1 : decide (200 < total) = true := decide_eq_true g200
      have e2 : decide (total ≤ 4096) = false := decide_eq_false (by omega)
      go_enter Try.func5, Try.ntmps5
      go_wp2_with fail
      (with_reducible refine (awake51 _).mono ?_)
      rintro e w1 ⟨rfl, hb1⟩
      have B1 := Lib.hid hb1
      clear hb1
      go_wp2_with fail
      (with_reducible refine (F1.out _ (HS.out.below B1.out)).mono ?_)
      rintro e w2 ⟨q, c, rfl, hs2, hb2⟩
      have B2 := Lib.hid (B1.out.trans (hb2.mono B1.out.size))
      have S2 := Lib.hid hs2
      clear hs2 hb2 B1
      go_wp2_with fail
      (with_reducible refine (F4.out q c _ S2.out).mono ?_)
      rintro e w3 ⟨rfl, hb3⟩
      have B3 := Lib.hid (B2.out.trans (hb3.mono B2.out.size))
      clear hb3 B2 S2 F4
      go_wp2_with fail
      (with_reducible refine (F3.out _ (HS.out.below B3.out)).mono ?_)
      rintro e w4 ⟨rfl, hb4⟩
      have B4 := Lib.hid (B3.out.trans (hb4.mono B3.out.size))
      clear hb4 B3
      go_wp2_with fail
      (with_reducible refine (F1.out _ (HS.out.below B4.out)).mono ?_)
      rintro e w5 ⟨q5, c5, rfl, hs5, hb5⟩
      have B5 := Lib.hid (B4.out.trans (hb5.mono B4.out.size))
      have S5 := Lib.hid hs5
      clear hs5 hb5 B4
      go_wp2_with fail
      (with_reducible refine (F2.out q5 c5 _ S5.out).mono ?_)
      rintro e w6 ⟨rfl, hb6⟩
      have B6 := Lib.hid (B5.out.trans (hb6.mono B5.out.size))
      clear hb6 B5 S5
      go_wp2
      go_ret
      exact ⟨rfl, B6.out⟩
    · have e1 : decide (200 < total) = false := decide_eq_false g200
      go_enter Try.func5, Try.ntmps5
      go_wp2_with fail
      (with_reducible refine (awake51 _).mono ?_)
      rintro e w1 ⟨rfl, hb1⟩
      have B1 := Lib.hid hb1
      clear hb1
      go_wp2_with fail
      (with_reducible refine (F1.out _ (HS.out.below B1.out)).mono ?_)
      rintro e w2 ⟨q, c, rfl, hs2, hb2⟩
      have B2 := Lib.hid (B1.out.trans (hb2.mono B1.out.size))
      have S2 := Lib.hid hs2
      clear hs2 hb2 B1
      go_wp2_with fail
      (with_reducible refine (F4.out q c _ S2.out).mono ?_)
      rintro e w3 ⟨rfl, hb3⟩
      have B3 := Lib.hid (B2.out.trans (hb3.mono B2.out.size))
      clear hb3 B2 S2 F4
      go_wp2_with fail
      (with_reducible refine (F3.out _ (HS.out.below B3.out)).mono ?_)
      rintro e w4 ⟨rfl, hb4⟩
      have B4 := Lib.hid (B3.out.trans (hb4.mono B3.out.size))
      clear hb4 B3
      go_wp2_with fail
      (with_reducible refine (F1.out _ (HS.out.below B4.out)).mono ?_)
      rintro e w5 ⟨q5, c5, rfl, hs5, hb5⟩
      have B5 := Lib.hid (B4.out.trans (hb5.mono B4.out.size))
      have S5 := Lib.hid hs5
      clear hs5 hb5 B4
      go_wp2_with fail
      (with_reducible refine (F2.out q5 c5 _ S5.out).mono ?_)
      rintro e w6 ⟨rfl, hb6⟩
      have B6 := Lib.hid (B5.out.trans (hb6.mono B5.out.size))
      clear hb6 B5 S5
      go_wp2
      go_ret
      exact ⟨rfl, B6.out⟩
end Go.Proofs.Ytcanbagnehdbiaa
