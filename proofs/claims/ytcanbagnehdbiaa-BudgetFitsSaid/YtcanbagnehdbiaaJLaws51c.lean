/- Layer 51: decisions that are made to fit: the law, walked. -/
import Derived.Test.YtcanbagnehdbiaaJBud7
import Derived.Test.YtcanbagnehdbiaaJNone
namespace Go.Proofs.Ytcanbagnehdbiaa
open Go.ChangeShapes Go.WideShapes Go.ChangeAt Go.RowKit

theorem wantInfoR : (Try.prog.info? 49).map (fun i => (i.zero, i.size, i.bytes)) = some (some (.agg #[.int .i64 0, .int .i64 0]), 2, 16) := by kernel_rfl
set_option maxRecDepth 100000 in
theorem budget_fit_len (total : Int) (q : Option Addr) (n c : Nat) (r : Option Addr) (m d : Nat) (hne : n ≠ m) (w : World) :
    Calls Try.prog 29 #[.int .i64 total, .slice q n c, .slice r m d] w fun e w' => e = .returned (.tuple #[.slice none 0 0, .int .i64 10]) ∧ Below w.heap.size w w' := by
  have h1 : ((n : Int) == (m : Int)) = false := beq_eq_false_iff_ne.2 (by omega)
  have h2 : ¬ (n : Int) = m := by omega
  go_enter Try.func29, Try.ntmps29
  go_wp2
  exact bodyPost_ret (results_tmp2 rfl _ _ _) rfl ⟨rfl, Below.refl _ _⟩
theorem Fit.mn_I64 {P : List (List Int)} (hr : ∀ r ∈ P, r.length = 6 ∧ ∀ a ∈ r, (Lit.int .i64 a).wf = true) (i : Nat) (hi : i < P.length) : I64 (Fit.mn P i) := by
  unfold Fit.mn
  rw [List.getElem?_eq_getElem hi]
  obtain ⟨h6, hw⟩ := hr _ (List.getElem_mem hi)
  show I64 ((P[i])[0]?.getD 0)
  rw [List.getElem?_eq_getElem (by omega)]
  exact I64.of_wf (hw _ (List.getElem_mem _))
theorem Fit.wants_In {A : List Adv} {P : List (List Int)} (hA : ∀ a ∈ A, a.In) (hr : ∀ r ∈ P, r.length = 6 ∧ ∀ a ∈ r, (Lit.int .i64 a).wf = true) : ∀ k, k ≤ A.length → k ≤ P.length → ∀ a ∈ Fit.wants A P k, a.In
  | 0, _, _ => by simp [Fit.wants]
  | k + 1, h1, h2 => by
    have ih := Fit.wants_In hA hr k (by omega) (by omega)
    unfold Fit.wants
    intro a ha
    rcases List.mem_append.1 ha with h | h
    · exact ih a h
    · obtain rfl : a = Fit.want A P k := List.mem_singleton.1 h
      have m1 := Fit.mn_I64 hr k (by omega)
      have m2 : I64 (Fit.rp A k) := by unfold Fit.rp; rw [List.getElem?_eq_getElem (by omega)]; exact (hA _ (List.getElem_mem _)).2.2.2.1
      unfold I64 at m1 m2
      exact ⟨by show I64 (min _ _); unfold I64; omega, by show I64 (Fit.rp A k); unfold I64; omega⟩

set_option maxHeartbeats 8000000 in
set_option maxRecDepth 100000 in
theorem budgetFits_walk (total : Int) (q : Option Addr) (c : Nat) (A : List Adv) (hA : ∀ a ∈ A, a.In) (hb : A.length ≤ 9223372036854775807) (hqn : q = none → A.length = 0 ∧ c = 0) (r : Option Addr) (d : Nat) (P : List (List Int)) (hr : ∀ x ∈ P, x.length = 6 ∧ ∀ a ∈ x, (Lit.int .i64 a).wf = true) (hb2 : P.length ≤ 9223372036854775807) (w : World) (hs : Advs w q A) (ht : Go.Proofs.Ytcanbagnehdbiaa.Rows .i64 6 w r P) :
    Calls Try.prog 7 #[.int .i64 total, .slice q A.length c, .slice r P.length d] w fun e w' => e = .returned (.bool true) ∧ Below w.heap.size w w' := by
  obtain ⟨n, en⟩ : ∃ n, n = A.length := ⟨_, rfl⟩
  obtain ⟨m, em⟩ : ∃ n, n = P.length := ⟨_, rfl⟩
  by_cases hg : 20 < n ∨ 20 < m ∨ 200 < total
  · rw [← en] at hb ⊢
    rw [← em] at hb2 ⊢
    clear en em hs ht hA hr hqn
    have W3 : ∀ (P1 P2 P3 : Prop), P1 ∨ P2 ∨ P3 → P1 ∨ (¬ P1 ∧ P2) ∨ (¬ P1 ∧ ¬ P2 ∧ P3) := by
      intro P1 P2 P3 h
      by_cases a : P1
      · exact .inl a
      · by_cases b : P2
        · exact .inr (.inl ⟨a, b⟩)
        · exact .inr (.inr ⟨a, b, by rcases h with h | h | h; exact absurd h a; exact absurd h b; exact h⟩)
    rcases W3 _ _ _ hg with h1 | ⟨h1, h2⟩ | ⟨h1, h2, h3⟩
    · have d1 : decide ((20 : Int) < n) = true := decide_eq_true (by omega)
      clear hg W3
      go_enter Try.func7, Try.ntmps7
      go_wp2_with fail
      (with_reducible refine (awake51 _).mono ?_)
      rintro e w1 ⟨rfl, hb1⟩
      have B1 := Lib.hid hb1
      clear hb1
      go_wp2
      go_ret
      exact ⟨rfl, B1.out⟩
    · have d1 : decide ((20 : Int) < n) = false := decide_eq_false (by omega)
      have d2 : decide ((20 : Int) < m) = true := decide_eq_true (by omega)
      clear hg W3
      go_enter Try.func7, Try.ntmps7
      go_wp2_with fail
      (with_reducible refine (awake51 _).mono ?_)
      rintro e w1 ⟨rfl, hb1⟩
      have B1 := Lib.hid hb1
      clear hb1
      go_wp2
      go_ret
      exact ⟨rfl, B1.out⟩
    · have d1 : decide ((20 : Int) < n) = false := decide_eq_false (by omega)
      have d2 : decide ((20 : Int) < m) = false := decide_eq_false (by omega)
      have d3 : decide (200 < total) = true := decide_eq_true h3
      clear hg W3
      go_enter Try.func7, Try.ntmps7
      go_wp2_with fail
      (with_reducible refine (awake51 _).mono ?_)
      rintro e w1 ⟨rfl, hb1⟩
      have B1 := Lib.hid hb1
      clear hb1
      go_wp2
      go_ret
      exact ⟨rfl, B1.out⟩
  have d1 : decide ((20 : Int) < n) = false := decide_eq_false (by omega)
  have d2 : decide ((20 : Int) < m) = false := decide_eq_false (by omega)
  have d3 : decide (200 < total) = false := decide_eq_false (by omega)
  have hn20 : n ≤ 20 := by omega
  by_cases hnm : n = m
  · have hPA : P.length = A.length := by omega
    have hWI := Fit.wants_In hA hr A.length (Nat.le_refl _) (by omega)
    have f1 := fun W : World => fun (h1 : Advs W q A) (h2 : Go.Proofs.Ytcanbagnehdbiaa.Rows .i64 6 W r P) => budget_fit total q c A hA hqn r d P (by omega) hPA hWI W h1 h2
    have f2 := fun (s : Option Addr) (e : Nat) (W : World) (h : Samps W s (Fit.wants A P A.length)) => ref51_check total s e (Fit.wants A P A.length) hWI (by rw [Fit.wants_len]; omega) W h
    have f3 := fun (hc : Bud.check total (Fit.wants A P A.length) = 0) (s : Option Addr) (e : Nat) (W : World) (h : Samps W s (Fit.wants A P A.length)) => ref51_share total s e (Fit.wants A P A.length) hWI hc W h
    have HWN := Lib.hid (fun k => show Fit.wants A P (k + 1) = Fit.wants A P k ++ [Fit.want A P k] from rfl)
    have HW0 : Hid (Fit.wants A P 0 = []) := rfl
    have HWL := Lib.hid (Fit.wants_len A P)
    have HWT := Lib.hid (fun k => show Fit.want A P k = ⟨min (Fit.mn P k) (Fit.rp A k), Fit.rp A k⟩ from rfl)
    obtain ⟨f, ef⟩ : ∃ f, f = Fit.wants A P := ⟨_, rfl⟩
    rw [← ef] at HWN HW0 HWL
    simp only [← ef] at f1 f2 f3
    have HS := Lib.hid hs
    have HT := Lib.hid ht
    have EN := Lib.hid en
    have EP : Hid (P.length = n) := em.symm.trans hnm.symm
    rw [← em, ← hnm, ← en]
    simp only [← en, HWL.out] at f1 f2 f3
    obtain ⟨S, eS⟩ : ∃ S, S = Bud.share total (f n) := ⟨_, rfl⟩
    simp only [← eS] at f1 f3
    obtain ⟨cd, ecd⟩ : ∃ S, S = Bud.check total (f n) := ⟨_, rfl⟩
    simp only [← ecd] at f1 f2 f3
    have F1 := Lib.hid f1
    have F2 := Lib.hid f2
    have F3 := Lib.hid f3
    clear f1 f2 f3 hs ht en em hA hqn hr hb hb2 hWI ef hg eS ecd hPA
    subst hnm
    go_enter Try.func7, Try.ntmps7
    go_wp2_with fail
    (with_reducible refine (awake51 _).mono ?_)
    rintro e w1 ⟨rfl, hb1⟩
    have B1 := Lib.hid hb1
    clear hb1
    go_wp2_with fail
    have HT1 : Hid (Go.Proofs.Ytcanbagnehdbiaa.Rows .i64 6 w1 r P) := Sl.below HT.out B1.out
    (with_reducible refine (F1.out _ ((HS.out).below B1.out) HT1.out).mono ?_)
    rintro e w2 ⟨hb2, hno, hyes⟩
    have B2 := Lib.hid (B1.out.trans (hb2.mono B1.out.size))
    clear hb2 B1 F1
    by_cases hc : cd = 0
    · obtain ⟨u, rfl, hO2⟩ := hyes hc
      obtain ⟨p4, c4, rfl, _⟩ := hO2.sl
      have OO := Lib.hid hO2
      have FS := Lib.hid (F3.out hc)
      subst hc
      clear hno hyes hO2 F3
      obtain ⟨W0, hW0⟩ : ∃ W, W = w2 := ⟨_, rfl⟩
      rw [← hW0] at B2 OO ⊢
      have HS2 := Lib.hid (HS.out.below B2.out)
      have HT2 : Hid (Go.Proofs.Ytcanbagnehdbiaa.Rows .i64 6 W0 r P) := Sl.below HT.out B2.out
      clear hW0
      go_wp2
      go_loopw [9, 51] (fun o i wr => ∃ k : Nat, k ≤ n ∧ i = .int .i64 (k : Nat) ∧ Owns wr W0.heap.size 2 o k (sampVals (f k)) ∧ Below W0.heap.size W0 wr) (fun _ i _ => n - (intOf i).toNat)
      case atStart => exact ⟨0, by omega, rfl, by rw [HW0.out]; exact owns_nil _ _ _, Below.refl _ _⟩
      case round =>
        obtain ⟨k, hk, rfl, hO, hB⟩ := hrel
        by_cases hlt : k < n
        · have hkl : k < A.length := by have := EN.out; omega
          obtain ⟨bq, off, rfl, hbw, _⟩ := HS2.out.cells k hkl
          obtain ⟨c0, c1, c2, c3, c4⟩ := Fit.adv_cells HS2.out k hkl wr hB
          obtain ⟨bp, offp, hr1, _, _⟩ := Sl.pos HT2.out (by have := EP.out; omega)
          subst hr1
          have hpc := Fit.pol_cell HT2.out k (by have := EP.out; omega)
          have hwn := HWN.out k
          rw [HWT.out k] at hwn
          obtain ⟨mn, emn⟩ : ∃ m, m = Fit.mn P k := ⟨_, rfl⟩
          rw [← emn] at hwn hpc
          have hrp : Fit.rp A k = (A[k]?.getD default).repl := rfl
          rw [hrp] at hwn
          obtain ⟨⟨a0, a1, a2, a3, a4⟩, ea⟩ : ∃ a, a = A[k]?.getD default := ⟨_, rfl⟩
          rw [← ea] at c0 c1 c2 c3 c4 hwn
          simp only at c0 c1 c2 c3 c4 hwn
          have HPC := Lib.hid hpc
          obtain ⟨xs, exs⟩ : ∃ s, s = f k := ⟨_, rfl⟩
          rw [← exs] at hwn hO
          have HWN2 := Lib.hid hwn
          have hal := below1 wr (.cells #[.int .i64 a0, .int .i64 a1, .int .i64 a2, .int .i64 a3, .int .i64 a4] 56)
          have M0 := Lib.hid (((Mem.start W0).call hB).alloc (.cells #[.int .i64 a0, .int .i64 a1, .int .i64 a2, .int .i64 a3, .int .i64 a4] 56))
          have O0 := Lib.hid (hO.below hal)
          have hkn : (k : Int) < n := by omega
          have hk0 : (0 : Int) ≤ k := by omega
          clear hO hB ea exs hwn hpc hrp emn hkl hal
          go_wp2_with fail
          have hst := stab_and (stab_mem (w := W0) (bs := [(wr.heap.size, .cells #[.int .i64 a0, .int .i64 a1, .int .i64 a2, .int .i64 a3, .int .i64 a4] 56)])) (stab_owns (B := W0.heap.size) (sz := 2) (v := u9) (n := k) (xs := sampVals xs))
          refine wp_region_E mixed [13] hst ⟨M0.out.drewN 1, O0.out.below (below_drew (Below.refl _ _))⟩ ?_
          clear c0 c1 c2 c3 c4
          obtain ⟨X, hX⟩ : ∃ X, wr.heap.size = X := ⟨_, rfl⟩
          rw [hX] at hst ⊢
          clear hX M0 O0
          refine wpAnyE_take 0 rfl (by kernel_rfl) (by kernel_rfl) (by kernel_rfl) (fun _ _ _ h => h) hst (EffB.pure rfl (fun _ => rfl)) (.inr (EffB.pure rfl (fun _ => rfl))) ?_
          simp only [act_norm]
          refine wpAnyE_take 1 rfl (by kernel_rfl) (by kernel_rfl) (by kernel_rfl) (fun _ _ _ h => h) hst (EffB.pure rfl (fun _ => rfl)) (.inr (EffB.pure rfl (fun _ => rfl))) ?_
          simp only [act_norm]
          refine wpAnyE_take 2 rfl (by kernel_rfl) (by kernel_rfl) (by kernel_rfl) (fun _ _ _ h => h) hst (EffB.pure rfl (fun _ => rfl)) (.inr (EffB.pure rfl (fun _ => rfl))) ?_
          simp only [act_norm]
          refine wpAnyE_take 3 (v := .pointer (some ⟨bp, offp + k * 6, none⟩)) rfl (by kernel_rfl) (by kernel_rfl) (by kernel_rfl) (fun _ _ _ h => h) hst (EffB.run rfl rfl (fun wd hS => ?_)) (.inr (EffB.run rfl rfl (fun wd hS => ?_))) ?_
          · (go_wp2; exact ⟨rfl, Below.refl _ _⟩)
          · (go_wp2; exact ⟨rfl, Below.refl _ _⟩)
          simp only [act_norm]
          refine wpAnyE_take 4 (v := .pointer (some ⟨bp, offp + k * 6, none⟩)) rfl (by kernel_rfl) (by kernel_rfl) (by kernel_rfl) (fun _ _ _ h => h) hst (EffB.run rfl rfl (fun wd hS => ?_)) (.inr (EffB.run rfl rfl (fun wd hS => ?_))) ?_
          · (go_wp2; exact ⟨rfl, Below.refl _ _⟩)
          · (go_wp2; exact ⟨rfl, Below.refl _ _⟩)
          simp only [act_norm]
          refine wpAnyE_take 5 (v := .int .i64 mn) rfl (by kernel_rfl) (by kernel_rfl) (by kernel_rfl) (fun _ _ _ h => h) hst (EffB.run rfl rfl (fun wd hS => ?_)) (.inl (by kernel_rfl)) ?_
          · have c9 := HPC.out wd hS.1.below; go_wp2; exact ⟨rfl, Below.refl _ _⟩
          simp only [act_norm]
          refine wpAnyE_take 6 (v := .pointer (some ⟨X, 3, none⟩)) rfl (by kernel_rfl) (by kernel_rfl) (by kernel_rfl) (fun _ _ _ h => h) hst (EffB.run rfl rfl (fun wd hS => ?_)) (.inr (EffB.run rfl rfl (fun wd hS => ?_))) ?_
          · (go_wp2; exact ⟨rfl, Below.refl _ _⟩)
          · (go_wp2; exact ⟨rfl, Below.refl _ _⟩)
          simp only [act_norm]
          refine wpAnyE_take 7 (v := .int .i64 a3) rfl (by kernel_rfl) (by kernel_rfl) (by kernel_rfl) (fun _ _ _ h => h) hst (EffB.run rfl rfl (fun wd hS => ?_)) (.inl (by kernel_rfl)) ?_
          · (have c2 : wd.cell? ⟨X, 3, none⟩ = some (.int .i64 a3) := by rw [cell_of_row _ _ _ _ _ _ (hS.1.heap 0 rfl)]; rfl); go_wp2; exact ⟨rfl, Below.refl _ _⟩
          simp only [act_norm]
          refine wpAnyE_take 8 (v := .int .i64 (min mn a3)) rfl (by kernel_rfl) (by kernel_rfl) (by kernel_rfl) (fun _ _ _ h => h) hst (EffB.run rfl rfl (fun wd hS => ?_)) (.inl (by kernel_rfl)) ?_
          · (by_cases hlt : (a3) < (mn); (· (rw [show min (mn) (a3) = a3 by omega]; go_wp2; exact ⟨rfl, Below.refl _ _⟩)); (· (rw [show min (mn) (a3) = mn by omega]; have hge2 : ¬ (a3) < (mn) := hlt; go_wp2; exact ⟨rfl, Below.refl _ _⟩)))
          simp only [act_norm]
          refine wpAnyE_take 9 (v := .pointer (some ⟨X, 3, none⟩)) rfl (by kernel_rfl) (by kernel_rfl) (by kernel_rfl) (fun _ _ _ h => h) hst (EffB.run rfl rfl (fun wd hS => ?_)) (.inr (EffB.run rfl rfl (fun wd hS => ?_))) ?_
          · (go_wp2; exact ⟨rfl, Below.refl _ _⟩)
          · (go_wp2; exact ⟨rfl, Below.refl _ _⟩)
          simp only [act_norm]
          refine wpAnyE_take 10 (v := .int .i64 a3) rfl (by kernel_rfl) (by kernel_rfl) (by kernel_rfl) (fun _ _ _ h => h) hst (EffB.run rfl rfl (fun wd hS => ?_)) (.inl (by kernel_rfl)) ?_
          · (have c2 : wd.cell? ⟨X, 3, none⟩ = some (.int .i64 a3) := by rw [cell_of_row _ _ _ _ _ _ (hS.1.heap 0 rfl)]; rfl); go_wp2; exact ⟨rfl, Below.refl _ _⟩
          simp only [act_norm]
          obtain ⟨mv, emv⟩ : ∃ m, min mn a3 = m := ⟨_, rfl⟩
          rw [emv]
          rw [emv] at HWN2
          refine wpAnyE_take 11 (v := .agg #[.int .i64 mv, .int .i64 a3]) rfl (by kernel_rfl) (by kernel_rfl) (by kernel_rfl) (fun _ _ _ h => h) hst (EffB.run rfl rfl (fun wd hS => ?_)) (.inr (EffB.run rfl rfl (fun wd hS => ?_))) ?_
          · (go_wp2; exact ⟨rfl, Below.refl _ _⟩)
          · (go_wp2; exact ⟨rfl, Below.refl _ _⟩)
          simp only [act_norm]
          refine wpAnyE_one 12 rfl (by kernel_rfl) rfl (fun wd hS => ?_)
          have hstN := stab_and hst (stab_heap wd.heap.size (.cells #[.int .i64 mv, .int .i64 a3] 49 (0, 0)))
          have Y1 := Lib.hid (And.intro (hst _ _ hS (below1 wd (.cells #[.int .i64 mv, .int .i64 a3] 49))) (heap_alloc_at wd (.cells #[.int .i64 mv, .int .i64 a3] 49) wd.heap.size rfl))
          clear hS
          go_wp2
          refine ⟨_, Y1.out, hstN, (by first | exact fun _ h => h.1 | exact .inr fun _ h => h.1), ?_⟩
          obtain ⟨Z, hZ⟩ : ∃ Z, wd.heap.size = Z := ⟨_, rfl⟩
          rw [hZ] at hstN ⊢
          clear Y1 hst hZ
          try simp only [act_norm]
          have hst := hstN
          clear hstN
          refine wpAnyE_one 13 rfl (by kernel_rfl) rfl (fun wd hS => ?_)
          have cX : ∀ (j : Nat) (u : Value), [Value.int .i64 mv, Value.int .i64 a3][j]? = some u → wd.cell? ⟨Z, j, none⟩ = some u := fun j u hu => by
            rw [cell_of_row _ _ _ _ _ _ hS.2]
            simpa using hu
          refine wp_append_anyF _ _ 36 rfl W0.heap.size 49 (.agg #[.int .i64 0, .int .i64 0]) 2 16 Try.underlying36 wantInfoR rfl (by decide) u9 k (sampVals xs) rfl hS.1.2 (some ⟨Z, 0, none⟩) 1 1 [.int .i64 mv, .int .i64 a3] rfl rfl (by simp) (fun ad had j u hu => by cases had; rw [Addr.add_mid, Nat.zero_add]; exact cX j u hu) (by intro u h; simp at h; rcases h with rfl | rfl <;> rfl) (by unfold maxLen; omega) (by omega) hS.1.1.below.size (fun u1 wx ha1 hg1 hw1 => ?_)
          have hbx := hS.1.1.below.grown hg1 hS.1.1.below.size (fun k' hk' => (hS.1.2.lt k' hk').1)
          have hstN := stab_and (stab_owns (B := W0.heap.size) (sz := 2) (v := u1) (n := k + 1) (xs := sampVals xs ++ [.int .i64 mv, .int .i64 a3])) (stab_belowF (B := W0.heap.size) (w := W0) (Nat.le_refl _))
          have Y2 := Lib.hid (And.intro ha1 hbx)
          clear hS cX ha1 hg1 hw1 hst hbx
          refine ⟨_, Y2.out, hstN, .inl (by decide), ?_⟩
          clear Y2
          try simp only [act_norm]
          have hst := hstN
          clear hstN
          refine wpAnyE_take 14 rfl (by kernel_rfl) (by kernel_rfl) (by kernel_rfl) (fun _ _ _ h => h) hst (EffB.pure rfl (fun _ => rfl)) (.inr (EffB.pure rfl (fun _ => rfl))) ?_
          simp only [act_norm]
          refine wpAnyE_done (by kernel_rfl) (fun wd hS => ?_) _
          have HF := Lib.hid hS
          clear hS hst
          go_wp2
          exact ⟨⟨k + 1, by omega, by go_num, by rw [HWN2.out, sampVals_append]; exact HF.out.1, HF.out.2⟩, by simp [intOf]; omega⟩
        · obtain rfl : k = n := by omega
          have hlen := HWL.out k
          obtain ⟨qw, cw, e, _, hsw⟩ := samps_of_owns (l := f k) (by rw [hlen]; exact hO)
          rw [hlen] at e
          subst e
          have SW := Lib.hid hsw
          have P1 := Lib.hid (F2.out qw cw _ hsw)
          have BR := Lib.hid hB
          clear hO hB hsw hlen HWN HW0 HWT F2
          go_wp2_with fail
          (with_reducible refine P1.out.mono ?_)
          rintro e w5 ⟨rfl, hb5⟩
          have B5 := Lib.hid (BR.out.trans (hb5.mono BR.out.size))
          have P2 := Lib.hid (FS.out qw cw w5 (SW.out.below hb5))
          clear hb5 P1 BR SW FS
          go_wp2_with fail
          (with_reducible refine P2.out.mono ?_)
          rintro e w6 ⟨u6, rfl, ho6, hb6⟩
          have hsl : S.length = k := by have := ho6.1; rw [intVals_len] at this; omega
          obtain ⟨p6, c6, e, _, hi6⟩ := ints_of_owns (l := S) (by rw [hsl]; exact ho6)
          rw [hsl] at e
          subst e
          have B6 := Lib.hid (B5.out.trans (hb6.mono B5.out.size))
          have I6 := Lib.hid hi6
          have SL := Lib.hid hsl
          have O6 := Lib.hid (OO.out.below B6.out)
          have S6 := Lib.hid (HS2.out.below B6.out)
          clear ho6 hi6 hb6 hsl P2 B5 OO HS2 HT2
          go_wp2
          go_loopw [99] (fun i wq => ∃ j : Nat, j ≤ k ∧ i = .int .i64 (j : Nat) ∧ Below w6.heap.size w6 wq) (fun i _ => k - (intOf i).toNat)
          case atStart => exact ⟨0, by omega, rfl, Below.refl _ _⟩
          case round =>
            obtain ⟨j, hj, rfl, hB⟩ := hrel
            by_cases hlj : j < k
            · have hjl : j < A.length := by have := EN.out; omega
              obtain ⟨g, cap', e, _, hgl, _, _, _⟩ := O6.out.some_of2 (by omega)
              simp only [Value.slice.injEq] at e
              obtain ⟨rfl, _, rfl⟩ := e
              obtain ⟨bq, off, rfl, hbw, _⟩ := S6.out.cells j hjl
              obtain ⟨bh, oh, hp6, hbh, hch⟩ := Sl.pos I6.out (by have := SL.out; omega)
              subst hp6
              have hOC : ∀ W : World, Below w6.heap.size w6 W → (W.cell? ⟨g, j * 5, none⟩ = some (.int .i64 (A[j]?.getD default).tick) ∧ W.cell? ⟨g, j * 5 + 1, none⟩ = some (.int .i64 (A[j]?.getD default).load) ∧ W.cell? ⟨g, j * 5 + 2, none⟩ = some (.int .i64 (A[j]?.getD default).want) ∧ W.cell? ⟨g, j * 5 + 3, none⟩ = some (.int .i64 (Bud.hv S j)) ∧ W.cell? ⟨g, j * 5 + 4, none⟩ = some (.int .i64 (A[j]?.getD default).why)) := fun W hW => by
                obtain ⟨g', cap2, e, _, _, _, hcell, _⟩ := (O6.out.below hW).some_of2 (by omega)
                simp only [Value.slice.injEq, Option.some.injEq, Addr.mk.injEq, and_true, true_and] at e
                obtain ⟨rfl, rfl⟩ := e
                obtain ⟨x0, x1, x2, x3, x4⟩ := Fit.part_get S A k j hjl hlj
                exact ⟨hcell _ _ x0, hcell _ _ x1, hcell _ _ x2, hcell _ _ x3, hcell _ _ x4⟩
              have hAC := Fit.adv_cells S6.out j hjl
              have hHC : ∀ W : World, Below w6.heap.size w6 W → W.cell? ⟨bh, oh + j, none⟩ = some (.int .i64 (Bud.hv S j)) := fun W hW => (hW.cell (p := ⟨bh, _, none⟩) hbh).trans (hch j (by have := SL.out; omega))
              obtain ⟨⟨a0, a1, a2, a3, a4⟩, ea⟩ : ∃ a, a = A[j]?.getD default := ⟨_, rfl⟩
              obtain ⟨y, ey⟩ : ∃ y, y = Bud.hv S j := ⟨_, rfl⟩
              rw [← ey] at hHC
              simp only [← ea, ← ey] at hOC hAC
              obtain ⟨o0, o1, o2, o3, o4⟩ := hOC wr hB
              have HAC := Lib.hid hAC
              have HHC := Lib.hid hHC
              have M0 := Lib.hid (((Mem.start w6).call hB).alloc (.cells #[.int .i64 a0, .int .i64 a1, .int .i64 a2, .int .i64 y, .int .i64 a4] 56))
              have hjk : (j : Int) < k := by omega
              have hj0 : (0 : Int) ≤ j := by omega
              clear hB hOC hAC hHC hch ea ey hjl
              go_wp2_with fail
              have hst := stab_mem (w := w6) (bs := [(wr.heap.size, .cells #[.int .i64 a0, .int .i64 a1, .int .i64 a2, .int .i64 y, .int .i64 a4] 56)])
              refine wp_region_E mixed [] hst (M0.out.drewN 1) ?_
              clear o0 o1 o2 o3 o4
              obtain ⟨X, hX⟩ : ∃ X, wr.heap.size = X := ⟨_, rfl⟩
              rw [hX] at hst ⊢
              clear hX M0
              refine wpAnyE_take 0 (v := .agg #[.int .i64 a0, .int .i64 a1, .int .i64 a2, .int .i64 y, .int .i64 a4]) rfl (by kernel_rfl) (by kernel_rfl) (by kernel_rfl) (fun _ _ _ h => h) hst (EffB.run rfl rfl (fun wd hS => ?_)) (.inl (by kernel_rfl)) ?_
              · exact wp_load_row 56 _ rfl (X) rfl 56 #[.int .i64 a0, .int .i64 a1, .int .i64 a2, .int .i64 y, .int .i64 a4] (0, 0) _ (hS.heap 0 rfl) Try.underlying56 rfl (by kernel_rfl) ⟨rfl, Below.refl _ _⟩
              simp only [act_norm]
              refine wpAnyE_take 1 rfl (by kernel_rfl) (by kernel_rfl) (by kernel_rfl) (fun _ _ _ h => h) hst (EffB.pure rfl (fun _ => rfl)) (.inr (EffB.pure rfl (fun _ => rfl))) ?_
              simp only [act_norm]
              refine wpAnyE_take 2 rfl (by kernel_rfl) (by kernel_rfl) (by kernel_rfl) (fun _ _ _ h => h) hst (EffB.pure rfl (fun _ => rfl)) (.inr (EffB.pure rfl (fun _ => rfl))) ?_
              simp only [act_norm]
              refine wpAnyE_take 3 (v := .pointer (some ⟨bq, off + j * 5, none⟩)) rfl (by kernel_rfl) (by kernel_rfl) (by kernel_rfl) (fun _ _ _ h => h) hst (EffB.run rfl rfl (fun wd hS => ?_)) (.inr (EffB.run rfl rfl (fun wd hS => ?_))) ?_
              · (go_wp2; exact ⟨rfl, Below.refl _ _⟩)
              · (go_wp2; exact ⟨rfl, Below.refl _ _⟩)
              simp only [act_norm]
              refine wpAnyE_take 4 (v := .pointer (some ⟨bq, off + j * 5, none⟩)) rfl (by kernel_rfl) (by kernel_rfl) (by kernel_rfl) (fun _ _ _ h => h) hst (EffB.run rfl rfl (fun wd hS => ?_)) (.inr (EffB.run rfl rfl (fun wd hS => ?_))) ?_
              · (go_wp2; exact ⟨rfl, Below.refl _ _⟩)
              · (go_wp2; exact ⟨rfl, Below.refl _ _⟩)
              simp only [act_norm]
              refine wpAnyE_take 5 (v := .int .i64 a0) rfl (by kernel_rfl) (by kernel_rfl) (by kernel_rfl) (fun _ _ _ h => h) hst (EffB.run rfl rfl (fun wd hS => ?_)) (.inl (by kernel_rfl)) ?_
              · obtain ⟨z0, z1, z2, z3, z4⟩ := HAC.out wd hS.below; go_wp2; exact ⟨rfl, Below.refl _ _⟩
              simp only [act_norm]
              refine wpAnyE_take 6 rfl (by kernel_rfl) (by kernel_rfl) (by kernel_rfl) (fun _ _ _ h => h) hst (EffB.pure rfl (fun _ => rfl)) (.inr (EffB.pure rfl (fun _ => rfl))) ?_
              simp only [act_norm]
              refine wpAnyE_take 7 rfl (by kernel_rfl) (by kernel_rfl) (by kernel_rfl) (fun _ _ _ h => h) hst (EffB.pure rfl (fun _ => rfl)) (.inr (EffB.pure rfl (fun _ => rfl))) ?_
              simp only [act_norm]
              refine wpAnyE_take 8 (v := .pointer (some ⟨bq, off + j * 5, none⟩)) rfl (by kernel_rfl) (by kernel_rfl) (by kernel_rfl) (fun _ _ _ h => h) hst (EffB.run rfl rfl (fun wd hS => ?_)) (.inr (EffB.run rfl rfl (fun wd hS => ?_))) ?_
              · (go_wp2; exact ⟨rfl, Below.refl _ _⟩)
              · (go_wp2; exact ⟨rfl, Below.refl _ _⟩)
              simp only [act_norm]
              refine wpAnyE_take 9 (v := .pointer (some ⟨bq, off + j * 5 + 1, none⟩)) rfl (by kernel_rfl) (by kernel_rfl) (by kernel_rfl) (fun _ _ _ h => h) hst (EffB.run rfl rfl (fun wd hS => ?_)) (.inr (EffB.run rfl rfl (fun wd hS => ?_))) ?_
              · (go_wp2; exact ⟨rfl, Below.refl _ _⟩)
              · (go_wp2; exact ⟨rfl, Below.refl _ _⟩)
              simp only [act_norm]
              refine wpAnyE_take 10 (v := .int .i64 a1) rfl (by kernel_rfl) (by kernel_rfl) (by kernel_rfl) (fun _ _ _ h => h) hst (EffB.run rfl rfl (fun wd hS => ?_)) (.inl (by kernel_rfl)) ?_
              · obtain ⟨z0, z1, z2, z3, z4⟩ := HAC.out wd hS.below; go_wp2; exact ⟨rfl, Below.refl _ _⟩
              simp only [act_norm]
              refine wpAnyE_take 11 rfl (by kernel_rfl) (by kernel_rfl) (by kernel_rfl) (fun _ _ _ h => h) hst (EffB.pure rfl (fun _ => rfl)) (.inr (EffB.pure rfl (fun _ => rfl))) ?_
              simp only [act_norm]
              refine wpAnyE_take 12 rfl (by kernel_rfl) (by kernel_rfl) (by kernel_rfl) (fun _ _ _ h => h) hst (EffB.pure rfl (fun _ => rfl)) (.inr (EffB.pure rfl (fun _ => rfl))) ?_
              simp only [act_norm]
              refine wpAnyE_take 13 (v := .pointer (some ⟨bq, off + j * 5, none⟩)) rfl (by kernel_rfl) (by kernel_rfl) (by kernel_rfl) (fun _ _ _ h => h) hst (EffB.run rfl rfl (fun wd hS => ?_)) (.inr (EffB.run rfl rfl (fun wd hS => ?_))) ?_
              · (go_wp2; exact ⟨rfl, Below.refl _ _⟩)
              · (go_wp2; exact ⟨rfl, Below.refl _ _⟩)
              simp only [act_norm]
              refine wpAnyE_take 14 (v := .pointer (some ⟨bq, off + j * 5 + 2, none⟩)) rfl (by kernel_rfl) (by kernel_rfl) (by kernel_rfl) (fun _ _ _ h => h) hst (EffB.run rfl rfl (fun wd hS => ?_)) (.inr (EffB.run rfl rfl (fun wd hS => ?_))) ?_
              · (go_wp2; exact ⟨rfl, Below.refl _ _⟩)
              · (go_wp2; exact ⟨rfl, Below.refl _ _⟩)
              simp only [act_norm]
              refine wpAnyE_take 15 (v := .int .i64 a2) rfl (by kernel_rfl) (by kernel_rfl) (by kernel_rfl) (fun _ _ _ h => h) hst (EffB.run rfl rfl (fun wd hS => ?_)) (.inl (by kernel_rfl)) ?_
              · obtain ⟨z0, z1, z2, z3, z4⟩ := HAC.out wd hS.below; go_wp2; exact ⟨rfl, Below.refl _ _⟩
              simp only [act_norm]
              refine wpAnyE_take 16 rfl (by kernel_rfl) (by kernel_rfl) (by kernel_rfl) (fun _ _ _ h => h) hst (EffB.pure rfl (fun _ => rfl)) (.inr (EffB.pure rfl (fun _ => rfl))) ?_
              simp only [act_norm]
              refine wpAnyE_take 17 rfl (by kernel_rfl) (by kernel_rfl) (by kernel_rfl) (fun _ _ _ h => h) hst (EffB.pure rfl (fun _ => rfl)) (.inr (EffB.pure rfl (fun _ => rfl))) ?_
              simp only [act_norm]
              refine wpAnyE_take 18 (v := .pointer (some ⟨bh, oh + j, none⟩)) rfl (by kernel_rfl) (by kernel_rfl) (by kernel_rfl) (fun _ _ _ h => h) hst (EffB.run rfl rfl (fun wd hS => ?_)) (.inr (EffB.run rfl rfl (fun wd hS => ?_))) ?_
              · (go_wp2; exact ⟨rfl, Below.refl _ _⟩)
              · (go_wp2; exact ⟨rfl, Below.refl _ _⟩)
              simp only [act_norm]
              refine wpAnyE_take 19 (v := .int .i64 y) rfl (by kernel_rfl) (by kernel_rfl) (by kernel_rfl) (fun _ _ _ h => h) hst (EffB.run rfl rfl (fun wd hS => ?_)) (.inl (by kernel_rfl)) ?_
              · have c9 := HHC.out wd hS.below; go_wp2; exact ⟨rfl, Below.refl _ _⟩
              simp only [act_norm]
              refine wpAnyE_take 20 rfl (by kernel_rfl) (by kernel_rfl) (by kernel_rfl) (fun _ _ _ h => h) hst (EffB.pure rfl (fun _ => rfl)) (.inr (EffB.pure rfl (fun _ => rfl))) ?_
              simp only [act_norm]
              refine wpAnyE_take 21 rfl (by kernel_rfl) (by kernel_rfl) (by kernel_rfl) (fun _ _ _ h => h) hst (EffB.pure rfl (fun _ => rfl)) (.inr (EffB.pure rfl (fun _ => rfl))) ?_
              simp only [act_norm]
              refine wpAnyE_take 22 (v := .pointer (some ⟨bq, off + j * 5, none⟩)) rfl (by kernel_rfl) (by kernel_rfl) (by kernel_rfl) (fun _ _ _ h => h) hst (EffB.run rfl rfl (fun wd hS => ?_)) (.inr (EffB.run rfl rfl (fun wd hS => ?_))) ?_
              · (go_wp2; exact ⟨rfl, Below.refl _ _⟩)
              · (go_wp2; exact ⟨rfl, Below.refl _ _⟩)
              simp only [act_norm]
              refine wpAnyE_take 23 (v := .pointer (some ⟨bq, off + j * 5 + 4, none⟩)) rfl (by kernel_rfl) (by kernel_rfl) (by kernel_rfl) (fun _ _ _ h => h) hst (EffB.run rfl rfl (fun wd hS => ?_)) (.inr (EffB.run rfl rfl (fun wd hS => ?_))) ?_
              · (go_wp2; exact ⟨rfl, Below.refl _ _⟩)
              · (go_wp2; exact ⟨rfl, Below.refl _ _⟩)
              simp only [act_norm]
              refine wpAnyE_take 24 (v := .int .i64 a4) rfl (by kernel_rfl) (by kernel_rfl) (by kernel_rfl) (fun _ _ _ h => h) hst (EffB.run rfl rfl (fun wd hS => ?_)) (.inl (by kernel_rfl)) ?_
              · obtain ⟨z0, z1, z2, z3, z4⟩ := HAC.out wd hS.below; go_wp2; exact ⟨rfl, Below.refl _ _⟩
              simp only [act_norm]
              refine wpAnyE_take 25 (v := .agg #[.int .i64 a0, .int .i64 a1, .int .i64 a2, .int .i64 y, .int .i64 a4]) rfl (by kernel_rfl) (by kernel_rfl) (by kernel_rfl) (fun _ _ _ h => h) hst (EffB.run rfl rfl (fun wd hS => ?_)) (.inr (EffB.run rfl rfl (fun wd hS => ?_))) ?_
              · (go_wp2; exact ⟨rfl, Below.refl _ _⟩)
              · (go_wp2; exact ⟨rfl, Below.refl _ _⟩)
              simp only [act_norm]
              refine wpAnyE_take 26 (v := .bool false) rfl (by kernel_rfl) (by kernel_rfl) (by kernel_rfl) (fun _ _ _ h => h) hst (EffB.run rfl rfl (fun wd hS => ?_)) (.inl (by kernel_rfl)) ?_
              · exact wp_neq_agg _ _ _ _ rfl _ _ rfl rfl true (by kernel_rfl) (adv_equal_yes ⟨a0, a1, a2, y, a4⟩ _) ⟨rfl, Below.refl _ _⟩
              simp only [act_norm]
              refine wpAnyE_done (by kernel_rfl) (fun wd hS => ?_) _
              have BF := Lib.hid hS.below
              clear hS hst
              go_wp2
              exact ⟨⟨j + 1, by omega, by go_num, BF.out⟩, by simp [intOf]; omega⟩
            · obtain rfl : j = k := by omega
              have BF := Lib.hid (B2.out.trans ((B6.out.trans (hB.mono B6.out.size)).mono B2.out.size))
              clear hB
              go_wp2
              go_ret
              exact ⟨rfl, BF.out⟩
    · have hcb : (cd == 0) = false := beq_eq_false_iff_ne.2 hc
      have he := hno hc
      subst he
      have HC0 := Lib.hid hc
      clear hno hyes F3
      obtain ⟨W0, hW0⟩ : ∃ W, W = w2 := ⟨_, rfl⟩
      rw [← hW0] at B2 ⊢
      have HS2 := Lib.hid (HS.out.below B2.out)
      have HT2 : Hid (Go.Proofs.Ytcanbagnehdbiaa.Rows .i64 6 W0 r P) := Sl.below HT.out B2.out
      clear hW0
      go_wp2
      go_loopw [9, 51] (fun o i wr => ∃ k : Nat, k ≤ n ∧ i = .int .i64 (k : Nat) ∧ Owns wr W0.heap.size 2 o k (sampVals (f k)) ∧ Below W0.heap.size W0 wr) (fun _ i _ => n - (intOf i).toNat)
      case atStart => exact ⟨0, by omega, rfl, by rw [HW0.out]; exact owns_nil _ _ _, Below.refl _ _⟩
      case round =>
        obtain ⟨k, hk, rfl, hO, hB⟩ := hrel
        by_cases hlt : k < n
        · have hkl : k < A.length := by have := EN.out; omega
          obtain ⟨bq, off, rfl, hbw, _⟩ := HS2.out.cells k hkl
          obtain ⟨c0, c1, c2, c3, c4⟩ := Fit.adv_cells HS2.out k hkl wr hB
          obtain ⟨bp, offp, hr1, _, _⟩ := Sl.pos HT2.out (by have := EP.out; omega)
          subst hr1
          have hpc := Fit.pol_cell HT2.out k (by have := EP.out; omega)
          have hwn := HWN.out k
          rw [HWT.out k] at hwn
          obtain ⟨mn, emn⟩ : ∃ m, m = Fit.mn P k := ⟨_, rfl⟩
          rw [← emn] at hwn hpc
          have hrp : Fit.rp A k = (A[k]?.getD default).repl := rfl
          rw [hrp] at hwn
          obtain ⟨⟨a0, a1, a2, a3, a4⟩, ea⟩ : ∃ a, a = A[k]?.getD default := ⟨_, rfl⟩
          rw [← ea] at c0 c1 c2 c3 c4 hwn
          simp only at c0 c1 c2 c3 c4 hwn
          have HPC := Lib.hid hpc
          obtain ⟨xs, exs⟩ : ∃ s, s = f k := ⟨_, rfl⟩
          rw [← exs] at hwn hO
          have HWN2 := Lib.hid hwn
          have hal := below1 wr (.cells #[.int .i64 a0, .int .i64 a1, .int .i64 a2, .int .i64 a3, .int .i64 a4] 56)
          have M0 := Lib.hid (((Mem.start W0).call hB).alloc (.cells #[.int .i64 a0, .int .i64 a1, .int .i64 a2, .int .i64 a3, .int .i64 a4] 56))
          have O0 := Lib.hid (hO.below hal)
          have hkn : (k : Int) < n := by omega
          have hk0 : (0 : Int) ≤ k := by omega
          clear hO hB ea exs hwn hpc hrp emn hkl hal
          go_wp2_with fail
          have hst := stab_and (stab_mem (w := W0) (bs := [(wr.heap.size, .cells #[.int .i64 a0, .int .i64 a1, .int .i64 a2, .int .i64 a3, .int .i64 a4] 56)])) (stab_owns (B := W0.heap.size) (sz := 2) (v := u9) (n := k) (xs := sampVals xs))
          refine wp_region_E mixed [13] hst ⟨M0.out.drewN 1, O0.out.below (below_drew (Below.refl _ _))⟩ ?_
          clear c0 c1 c2 c3 c4
          obtain ⟨X, hX⟩ : ∃ X, wr.heap.size = X := ⟨_, rfl⟩
          rw [hX] at hst ⊢
          clear hX M0 O0
          refine wpAnyE_take 0 rfl (by kernel_rfl) (by kernel_rfl) (by kernel_rfl) (fun _ _ _ h => h) hst (EffB.pure rfl (fun _ => rfl)) (.inr (EffB.pure rfl (fun _ => rfl))) ?_
          simp only [act_norm]
          refine wpAnyE_take 1 rfl (by kernel_rfl) (by kernel_rfl) (by kernel_rfl) (fun _ _ _ h => h) hst (EffB.pure rfl (fun _ => rfl)) (.inr (EffB.pure rfl (fun _ => rfl))) ?_
          simp only [act_norm]
          refine wpAnyE_take 2 rfl (by kernel_rfl) (by kernel_rfl) (by kernel_rfl) (fun _ _ _ h => h) hst (EffB.pure rfl (fun _ => rfl)) (.inr (EffB.pure rfl (fun _ => rfl))) ?_
          simp only [act_norm]
          refine wpAnyE_take 3 (v := .pointer (some ⟨bp, offp + k * 6, none⟩)) rfl (by kernel_rfl) (by kernel_rfl) (by kernel_rfl) (fun _ _ _ h => h) hst (EffB.run rfl rfl (fun wd hS => ?_)) (.inr (EffB.run rfl rfl (fun wd hS => ?_))) ?_
          · (go_wp2; exact ⟨rfl, Below.refl _ _⟩)
          · (go_wp2; exact ⟨rfl, Below.refl _ _⟩)
          simp only [act_norm]
          refine wpAnyE_take 4 (v := .pointer (some ⟨bp, offp + k * 6, none⟩)) rfl (by kernel_rfl) (by kernel_rfl) (by kernel_rfl) (fun _ _ _ h => h) hst (EffB.run rfl rfl (fun wd hS => ?_)) (.inr (EffB.run rfl rfl (fun wd hS => ?_))) ?_
          · (go_wp2; exact ⟨rfl, Below.refl _ _⟩)
          · (go_wp2; exact ⟨rfl, Below.refl _ _⟩)
          simp only [act_norm]
          refine wpAnyE_take 5 (v := .int .i64 mn) rfl (by kernel_rfl) (by kernel_rfl) (by kernel_rfl) (fun _ _ _ h => h) hst (EffB.run rfl rfl (fun wd hS => ?_)) (.inl (by kernel_rfl)) ?_
          · have c9 := HPC.out wd hS.1.below; go_wp2; exact ⟨rfl, Below.refl _ _⟩
          simp only [act_norm]
          refine wpAnyE_take 6 (v := .pointer (some ⟨X, 3, none⟩)) rfl (by kernel_rfl) (by kernel_rfl) (by kernel_rfl) (fun _ _ _ h => h) hst (EffB.run rfl rfl (fun wd hS => ?_)) (.inr (EffB.run rfl rfl (fun wd hS => ?_))) ?_
          · (go_wp2; exact ⟨rfl, Below.refl _ _⟩)
          · (go_wp2; exact ⟨rfl, Below.refl _ _⟩)
          simp only [act_norm]
          refine wpAnyE_take 7 (v := .int .i64 a3) rfl (by kernel_rfl) (by kernel_rfl) (by kernel_rfl) (fun _ _ _ h => h) hst (EffB.run rfl rfl (fun wd hS => ?_)) (.inl (by kernel_rfl)) ?_
          · (have c2 : wd.cell? ⟨X, 3, none⟩ = some (.int .i64 a3) := by rw [cell_of_row _ _ _ _ _ _ (hS.1.heap 0 rfl)]; rfl); go_wp2; exact ⟨rfl, Below.refl _ _⟩
          simp only [act_norm]
          refine wpAnyE_take 8 (v := .int .i64 (min mn a3)) rfl (by kernel_rfl) (by kernel_rfl) (by kernel_rfl) (fun _ _ _ h => h) hst (EffB.run rfl rfl (fun wd hS => ?_)) (.inl (by kernel_rfl)) ?_
          · (by_cases hlt : (a3) < (mn); (· (rw [show min (mn) (a3) = a3 by omega]; go_wp2; exact ⟨rfl, Below.refl _ _⟩)); (· (rw [show min (mn) (a3) = mn by omega]; have hge2 : ¬ (a3) < (mn) := hlt; go_wp2; exact ⟨rfl, Below.refl _ _⟩)))
          simp only [act_norm]
          refine wpAnyE_take 9 (v := .pointer (some ⟨X, 3, none⟩)) rfl (by kernel_rfl) (by kernel_rfl) (by kernel_rfl) (fun _ _ _ h => h) hst (EffB.run rfl rfl (fun wd hS => ?_)) (.inr (EffB.run rfl rfl (fun wd hS => ?_))) ?_
          · (go_wp2; exact ⟨rfl, Below.refl _ _⟩)
          · (go_wp2; exact ⟨rfl, Below.refl _ _⟩)
          simp only [act_norm]
          refine wpAnyE_take 10 (v := .int .i64 a3) rfl (by kernel_rfl) (by kernel_rfl) (by kernel_rfl) (fun _ _ _ h => h) hst (EffB.run rfl rfl (fun wd hS => ?_)) (.inl (by kernel_rfl)) ?_
          · (have c2 : wd.cell? ⟨X, 3, none⟩ = some (.int .i64 a3) := by rw [cell_of_row _ _ _ _ _ _ (hS.1.heap 0 rfl)]; rfl); go_wp2; exact ⟨rfl, Below.refl _ _⟩
          simp only [act_norm]
          obtain ⟨mv, emv⟩ : ∃ m, min mn a3 = m := ⟨_, rfl⟩
          rw [emv]
          rw [emv] at HWN2
          refine wpAnyE_take 11 (v := .agg #[.int .i64 mv, .int .i64 a3]) rfl (by kernel_rfl) (by kernel_rfl) (by kernel_rfl) (fun _ _ _ h => h) hst (EffB.run rfl rfl (fun wd hS => ?_)) (.inr (EffB.run rfl rfl (fun wd hS => ?_))) ?_
          · (go_wp2; exact ⟨rfl, Below.refl _ _⟩)
          · (go_wp2; exact ⟨rfl, Below.refl _ _⟩)
          simp only [act_norm]
          refine wpAnyE_one 12 rfl (by kernel_rfl) rfl (fun wd hS => ?_)
          have hstN := stab_and hst (stab_heap wd.heap.size (.cells #[.int .i64 mv, .int .i64 a3] 49 (0, 0)))
          have Y1 := Lib.hid (And.intro (hst _ _ hS (below1 wd (.cells #[.int .i64 mv, .int .i64 a3] 49))) (heap_alloc_at wd (.cells #[.int .i64 mv, .int .i64 a3] 49) wd.heap.size rfl))
          clear hS
          go_wp2
          refine ⟨_, Y1.out, hstN, (by first | exact fun _ h => h.1 | exact .inr fun _ h => h.1), ?_⟩
          obtain ⟨Z, hZ⟩ : ∃ Z, wd.heap.size = Z := ⟨_, rfl⟩
          rw [hZ] at hstN ⊢
          clear Y1 hst hZ
          try simp only [act_norm]
          have hst := hstN
          clear hstN
          refine wpAnyE_one 13 rfl (by kernel_rfl) rfl (fun wd hS => ?_)
          have cX : ∀ (j : Nat) (u : Value), [Value.int .i64 mv, Value.int .i64 a3][j]? = some u → wd.cell? ⟨Z, j, none⟩ = some u := fun j u hu => by
            rw [cell_of_row _ _ _ _ _ _ hS.2]
            simpa using hu
          refine wp_append_anyF _ _ 36 rfl W0.heap.size 49 (.agg #[.int .i64 0, .int .i64 0]) 2 16 Try.underlying36 wantInfoR rfl (by decide) u9 k (sampVals xs) rfl hS.1.2 (some ⟨Z, 0, none⟩) 1 1 [.int .i64 mv, .int .i64 a3] rfl rfl (by simp) (fun ad had j u hu => by cases had; rw [Addr.add_mid, Nat.zero_add]; exact cX j u hu) (by intro u h; simp at h; rcases h with rfl | rfl <;> rfl) (by unfold maxLen; omega) (by omega) hS.1.1.below.size (fun u1 wx ha1 hg1 hw1 => ?_)
          have hbx := hS.1.1.below.grown hg1 hS.1.1.below.size (fun k' hk' => (hS.1.2.lt k' hk').1)
          have hstN := stab_and (stab_owns (B := W0.heap.size) (sz := 2) (v := u1) (n := k + 1) (xs := sampVals xs ++ [.int .i64 mv, .int .i64 a3])) (stab_belowF (B := W0.heap.size) (w := W0) (Nat.le_refl _))
          have Y2 := Lib.hid (And.intro ha1 hbx)
          clear hS cX ha1 hg1 hw1 hst hbx
          refine ⟨_, Y2.out, hstN, .inl (by decide), ?_⟩
          clear Y2
          try simp only [act_norm]
          have hst := hstN
          clear hstN
          refine wpAnyE_take 14 rfl (by kernel_rfl) (by kernel_rfl) (by kernel_rfl) (fun _ _ _ h => h) hst (EffB.pure rfl (fun _ => rfl)) (.inr (EffB.pure rfl (fun _ => rfl))) ?_
          simp only [act_norm]
          refine wpAnyE_done (by kernel_rfl) (fun wd hS => ?_) _
          have HF := Lib.hid hS
          clear hS hst
          go_wp2
          exact ⟨⟨k + 1, by omega, by go_num, by rw [HWN2.out, sampVals_append]; exact HF.out.1, HF.out.2⟩, by simp [intOf]; omega⟩
        · obtain rfl : k = n := by omega
          have hlen := HWL.out k
          obtain ⟨qw, cw, e, _, hsw⟩ := samps_of_owns (l := f k) (by rw [hlen]; exact hO)
          rw [hlen] at e
          subst e
          have SW := Lib.hid hsw
          have P1 := Lib.hid (F2.out qw cw _ hsw)
          have BR := Lib.hid hB
          clear hO hB hsw hlen HWN HW0 HWT F2
          go_wp2_with fail
          (with_reducible refine P1.out.mono ?_)
          rintro e w5 ⟨rfl, hb5⟩
          have B5 := Lib.hid (BR.out.trans (hb5.mono BR.out.size))
          clear hb5 P1 BR SW
          go_wp2
          go_ret
          exact ⟨rfl, B2.out.trans (B5.out.mono B2.out.size)⟩
  · have F1 := Lib.hid (budget_fit_len total q n c r m d hnm)
    have h1 : ((n : Int) == (m : Int)) = false := beq_eq_false_iff_ne.2 (by omega)
    have h2 : ¬ (n : Int) = m := by omega
    rw [← en] at hb ⊢
    rw [← em] at hb2 ⊢
    clear en em hs ht hA hr hqn hg hnm
    go_enter Try.func7, Try.ntmps7
    go_wp2_with fail
    (with_reducible refine (awake51 _).mono ?_)
    rintro e w1 ⟨rfl, hb1⟩
    have B1 := Lib.hid hb1
    clear hb1
    go_wp2_with fail
    (with_reducible refine (F1.out _).mono ?_)
    rintro e w2 ⟨rfl, hb3⟩
    have B2 := Lib.hid (B1.out.trans (hb3.mono B1.out.size))
    clear hb3 B1
    go_wp2
    go_ret
    exact ⟨rfl, B2.out⟩
end Go.Proofs.Ytcanbagnehdbiaa
