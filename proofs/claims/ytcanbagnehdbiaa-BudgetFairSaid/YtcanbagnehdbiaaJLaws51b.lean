/- Layer 51: nobody has less than they need, or more than they want; it is fair: the law, walked. -/
import Derived.Test.YtcanbagnehdbiaaJLaws51
import Derived.Test.YtcanbagnehdbiaaJBud5
namespace Go.Proofs.Ytcanbagnehdbiaa
open Go.ChangeShapes Go.WideShapes Go.ChangeAt Go.RowKit

set_option maxHeartbeats 4000000 in
set_option maxRecDepth 100000 in
theorem budgetFair_walk (total : Int) (p : Option Addr) (cap : Nat) (l : List Samp) (hl : ∀ a ∈ l, a.In) (hb : l.length ≤ 9223372036854775807) (w : World) (hs : Samps w p l) :
    Calls Try.prog 6 #[.int .i64 total, .slice p l.length cap] w fun e w' => e = .returned (.bool true) ∧ Below w.heap.size w w' := by
  obtain ⟨n, en⟩ : ∃ n, n = l.length := ⟨_, rfl⟩
  by_cases h20 : 20 < n ∨ 200 < total
  · rw [← en] at hb ⊢
    clear en hs hl
    by_cases h1 : 20 < n
    · have d1 : decide ((20 : Int) < n) = true := decide_eq_true (by omega)
      clear h20
      go_enter Try.func6, Try.ntmps6
      go_wp2_with fail
      (with_reducible refine (awake51 _).mono ?_)
      rintro e w1 ⟨rfl, hb1⟩
      have M1 := Lib.hid ((Mem.start w).call hb1)
      clear hb1
      go_wp2
      go_ret
      exact ⟨rfl, M1.out.below⟩
    · have d1 : decide ((20 : Int) < n) = false := decide_eq_false (by omega)
      have d2 : decide (200 < total) = true := decide_eq_true (by omega)
      clear h20
      go_enter Try.func6, Try.ntmps6
      go_wp2_with fail
      (with_reducible refine (awake51 _).mono ?_)
      rintro e w1 ⟨rfl, hb1⟩
      have M1 := Lib.hid ((Mem.start w).call hb1)
      clear hb1
      go_wp2
      go_ret
      exact ⟨rfl, M1.out.below⟩
  have d1 : decide ((20 : Int) < n) = false := decide_eq_false (by omega)
  have d2 : decide (200 < total) = false := decide_eq_false (by omega)
  have hn20 : n ≤ 20 := by omega
  have f1 := fun W : World => fun h : Samps W p l => law51_wants p cap l (by omega) W h
  have f4 := fun (hc : Bud.check total l ≠ 0) (q : Option Addr) (c : Nat) (W : World) (h : Samps W q l) => budget_share_bad total q c l hl hb hc W h
  have f5 := fun (hc : Bud.check total l = 0) (q : Option Addr) (c : Nat) (W : World) (h : Samps W q l) => budget_share total q c l hl hc W h
  have hdata := fun hc : Bud.check total l = 0 => Bud.share_all hc hl
  have hmins := fun hc : Bud.check total l = 0 => Bud.bads_none l l.length (Bud.check_ok hc).2.2.2.1
  obtain ⟨S, eS⟩ : ∃ S, S = Bud.share total l := ⟨_, rfl⟩
  simp only [← eS] at f5 hdata
  obtain ⟨cd, ecd⟩ : ∃ S, S = Bud.check total l := ⟨_, rfl⟩
  rw [← ecd] at f4 f5 hdata hmins
  rw [← en] at hb
  simp only [← en] at f1 f4 f5 hdata hmins ⊢
  have F1 := Lib.hid f1
  have HS := Lib.hid hs
  have EN := Lib.hid en
  clear f1 hs en eS ecd h20
  by_cases hc : cd = 0
  · have F5 := Lib.hid (f5 hc)
    obtain ⟨hinv, htot, hbd⟩ := hdata hc
    have HMN := Lib.hid (hmins hc)
    have HINV := Lib.hid hinv
    have HTOT := Lib.hid htot
    have HBD := Lib.hid hbd
    have SL : Hid (S.length = n) := hinv.ok.1.trans EN.out.symm
    have T0 : Hid (Bud.tot (Bud.hv S) 0 = 0) := rfl
    have A0 : Hid (Bud.alls l 0 = 0) := rfl
    have L0 : Hid (Bud.lacks l S 0 = 0) := rfl
    have TN := Lib.hid (fun k => show Bud.tot (Bud.hv S) (k + 1) = Bud.tot (Bud.hv S) k + Bud.hv S k from rfl)
    have AN := Lib.hid (fun k => show Bud.alls l (k + 1) = Sat.clamp (Bud.alls l k + Bud.wt l k) from rfl)
    have LN := Lib.hid (fun k => show Bud.lacks l S (k + 1) = Sat.clamp (Bud.lacks l S k + (Bud.wt l k - Bud.hv S k)) from rfl)
    have A64 := Lib.hid (Bud.alls_I64 l)
    have L64 := Lib.hid (Bud.lacks_I64 l S)
    have FL := Lib.hid (fun (q : Option Addr) (c : Nat) (p' : Option Addr) (d : Nat) (W : World) (h1 : Samps W q l) (h2 : Ints .i64 W p' S) => budget_lacks q c l p' d S hinv.ok (by have := EN.out; omega) W h1 h2)
    obtain ⟨tt, ett⟩ : ∃ f, f = Bud.tot (Bud.hv S) := ⟨_, rfl⟩
    obtain ⟨aa, eaa⟩ : ∃ f, f = Bud.alls l := ⟨_, rfl⟩
    obtain ⟨ll, ell⟩ : ∃ f, f = Bud.lacks l S := ⟨_, rfl⟩
    rw [← ett] at HTOT HBD T0 TN
    rw [← eaa] at HTOT A0 AN A64
    rw [← ell] at L0 LN L64 FL
    rw [← EN.out] at FL
    subst hc
    clear f4 f5 hdata hmins hinv htot hbd ett eaa ell hl
    go_enter Try.func6, Try.ntmps6
    go_wp2_with fail
    (with_reducible refine (awake51 _).mono ?_)
    rintro e w1 ⟨rfl, hb1⟩
    have B1 := Lib.hid hb1
    clear hb1
    go_wp2_with fail
    (with_reducible refine (F1.out _ (HS.out.below B1.out)).mono ?_)
    rintro e w2 ⟨q, c, rfl, hs2, hb2⟩
    have B2 := Lib.hid (B1.out.trans (hb2.mono B1.out.size))
    have S2 := Lib.hid hs2
    clear hs2 hb2 B1
    go_wp2_with fail
    (with_reducible refine (F5.out q c _ S2.out).mono ?_)
    rintro e w3 ⟨u, rfl, ho, hb3⟩
    rw [← SL.out] at ho
    obtain ⟨p3, c3, rfl, _, hi3⟩ := ints_of_owns ho
    rw [SL.out]
    have B3 := Lib.hid (B2.out.trans (hb3.mono B2.out.size))
    have I3 := Lib.hid hi3
    have PS3 := Lib.hid (HS.out.below B3.out)
    clear ho hi3 hb3 B2 S2 F5
    go_wp2
    go_loopw [7, 8, 9, 48] (fun a b d i wr => ∃ k : Nat, k ≤ n ∧ i = .int .i64 (k : Nat) ∧ a = .int .i64 (tt k) ∧ b = .int .i64 (aa k) ∧ d = .int .i64 (ll k) ∧ Below w3.heap.size w3 wr) (fun _ _ _ i _ => n - (intOf i).toNat)
    case atStart => exact ⟨0, by omega, rfl, by rw [T0.out], by rw [A0.out], by rw [L0.out], Below.refl _ _⟩
    case round =>
      obtain ⟨k, hk, rfl, rfl, rfl, rfl, hB⟩ := hrel
      by_cases hlt : k < n
      · have hkl : k < l.length := by have := EN.out; omega
        obtain ⟨bq, off, rfl, hbw, _⟩ := PS3.out.cells k hkl
        obtain ⟨c0, c1⟩ := PS3.out.bc k hkl wr hB
        obtain ⟨bh, oh, rfl, hbh, hch⟩ := Sl.pos I3.out (by have := SL.out; omega)
        have HCH : Hid (∀ j, j < n → ∀ W : World, Below w3.heap.size w3 W → W.cell? ⟨bh, oh + j, none⟩ = some (.int .i64 (Bud.hv S j))) := fun j hj W hW => (hW.cell (p := ⟨bh, _, none⟩) hbh).trans (hch j (by have := SL.out; omega))
        obtain ⟨o1, o2, o3⟩ := HINV.out.ok.2 k hkl
        have o0 := HINV.out.least k hkl
        have tn := TN.out k
        have an := AN.out k
        have ln := LN.out k
        have a64 := A64.out k
        have l64 := L64.out k
        have bd1 := HBD.out k hk
        have bd2 := HBD.out (k + 1) (by omega)
        unfold Bud.wt at an ln o2 o3
        obtain ⟨⟨m0, v0⟩, ex⟩ : ∃ x, x = l[k]?.getD default := ⟨_, rfl⟩
        have EX := Lib.hid ex
        rw [← ex] at c0 c1 an ln o2 o3 o0
        simp only at c0 c1 an ln o2 o3 o0
        obtain ⟨y, ey⟩ : ∃ y, y = Bud.hv S k := ⟨_, rfl⟩
        have EY := Lib.hid ey
        rw [← ey] at tn ln o1 o2 o0
        have HM0 := Lib.hid (hB)
        have M0 := Lib.hid (((Mem.start w3).call hB).alloc (.cells #[.int .i64 m0, .int .i64 v0] 49))
        obtain ⟨sa, esa⟩ : ∃ x, x = tt k := ⟨_, rfl⟩
        obtain ⟨sb, esb⟩ : ∃ x, x = aa k := ⟨_, rfl⟩
        obtain ⟨sd, esd⟩ : ∃ x, x = ll k := ⟨_, rfl⟩
        rw [← esa] at tn bd1 ⊢
        rw [← esb] at an a64 ⊢
        rw [← esd] at ln l64 ⊢
        obtain ⟨sa2, esa2⟩ : ∃ x, x = tt (k + 1) := ⟨_, rfl⟩
        obtain ⟨sb2, esb2⟩ : ∃ x, x = aa (k + 1) := ⟨_, rfl⟩
        obtain ⟨sd2, esd2⟩ : ∃ x, x = ll (k + 1) := ⟨_, rfl⟩
        rw [← esa2] at tn bd2
        have G1 := ref_add sb v0 a64 (by unfold I64; omega)
        rw [← an, ← esb2] at G1
        have G2 := ref_add sd (v0 - y) l64 (by unfold I64; omega)
        rw [← ln, ← esd2] at G2
        obtain ⟨gk, egk⟩ : ∃ g, v0 - y = g := ⟨_, rfl⟩
        rw [egk] at G2
        have GG1 := Lib.hid G1
        have GG2 := Lib.hid G2
        have hadd : sa + y = sa2 := tn.symm
        have hgk : 0 ≤ gk ∧ gk ≤ 9223372036854775807 := by omega
        have ESA := Lib.hid esa2
        have ESB := Lib.hid esb2
        have ESD := Lib.hid esd2
        have EGK := Lib.hid egk
        have e1 : decide (y < m0) = false := decide_eq_false (by omega)
        have e2 : decide (v0 < y) = false := decide_eq_false (by omega)
        have g1 : ¬ y < m0 := by omega
        have g2 : ¬ v0 < y := by omega
        have hkn : (k : Int) < n := by omega
        have hk0 : (0 : Int) ≤ k := by omega
        have ch := (HCH.out k hlt wr hB)
        rw [← ey] at ch
        have ch2 : (wr.alloc (.cells #[.int .i64 m0, .int .i64 v0] 49)).cell? ⟨bh, oh + k, none⟩ = some (.int .i64 y) := (HCH.out k hlt _ M0.out.below).trans (by rw [EY.out])
        have HCK : Hid (∀ W : World, Below w3.heap.size w3 W → W.cell? ⟨bh, oh + k, none⟩ = some (.int .i64 y)) := fun W hW => by rw [EY.out]; exact HCH.out k hlt W hW
        clear hB ex ey esa esb esd esa2 esb2 esd2 G1 G2 tn an ln a64 l64 hch hkl
        go_wp2_with fail
        go_quiet (fail)
        go_wp2_with ((with_reducible refine (GG1.out _).mono ?_); rintro e w9 ⟨rfl, rfl⟩)
        have hst := stab_mem (w := w3) (bs := [(wr.heap.size, .cells #[.int .i64 m0, .int .i64 v0] 49)])
        refine wp_region_E mixed [] hst ((M0.out.drewN _).drewN 1) ?_
        clear c0 c1 ch ch2 GG1
        obtain ⟨X, hX⟩ : ∃ X, wr.heap.size = X := ⟨_, rfl⟩
        rw [hX] at hst ⊢
        clear hX M0 HM0
        refine wpAnyE_take 0 rfl (by kernel_rfl) (by kernel_rfl) (by kernel_rfl) (fun _ _ _ h => h) hst (EffB.pure rfl (fun _ => rfl)) (.inr (EffB.pure rfl (fun _ => rfl))) ?_
        simp only [act_norm]
        refine wpAnyE_take 1 (v := .pointer (some ⟨X, 1, none⟩)) rfl (by kernel_rfl) (by kernel_rfl) (by kernel_rfl) (fun _ _ _ h => h) hst (EffB.run rfl rfl (fun wd hS => ?_)) (.inr (EffB.run rfl rfl (fun wd hS => ?_))) ?_
        · (go_wp2; exact ⟨rfl, Below.refl _ _⟩)
        · (go_wp2; exact ⟨rfl, Below.refl _ _⟩)
        simp only [act_norm]
        refine wpAnyE_take 2 (v := .int .i64 v0) rfl (by kernel_rfl) (by kernel_rfl) (by kernel_rfl) (fun _ _ _ h => h) hst (EffB.run rfl rfl (fun wd hS => ?_)) (.inl (by kernel_rfl)) ?_
        · (have c2 : wd.cell? ⟨X, 1, none⟩ = some (.int .i64 v0) := by rw [cell_of_row _ _ _ _ _ _ (hS.heap 0 rfl)]; rfl); go_wp2; exact ⟨rfl, Below.refl _ _⟩
        simp only [act_norm]
        refine wpAnyE_take 3 rfl (by kernel_rfl) (by kernel_rfl) (by kernel_rfl) (fun _ _ _ h => h) hst (EffB.pure rfl (fun _ => rfl)) (.inr (EffB.pure rfl (fun _ => rfl))) ?_
        simp only [act_norm]
        refine wpAnyE_take 4 rfl (by kernel_rfl) (by kernel_rfl) (by kernel_rfl) (fun _ _ _ h => h) hst (EffB.pure rfl (fun _ => rfl)) (.inr (EffB.pure rfl (fun _ => rfl))) ?_
        simp only [act_norm]
        refine wpAnyE_take 5 (v := .pointer (some ⟨bh, oh + k, none⟩)) rfl (by kernel_rfl) (by kernel_rfl) (by kernel_rfl) (fun _ _ _ h => h) hst (EffB.run rfl rfl (fun wd hS => ?_)) (.inr (EffB.run rfl rfl (fun wd hS => ?_))) ?_
        · (go_wp2; exact ⟨rfl, Below.refl _ _⟩)
        · (go_wp2; exact ⟨rfl, Below.refl _ _⟩)
        simp only [act_norm]
        refine wpAnyE_take 6 (v := .int .i64 y) rfl (by kernel_rfl) (by kernel_rfl) (by kernel_rfl) (fun _ _ _ h => h) hst (EffB.run rfl rfl (fun wd hS => ?_)) (.inl (by kernel_rfl)) ?_
        · have c9 := HCK.out wd hS.below; go_wp2; exact ⟨rfl, Below.refl _ _⟩
        simp only [act_norm]
        refine wpAnyE_take 7 (v := .int .i64 (v0 - y)) rfl (by kernel_rfl) (by kernel_rfl) (by kernel_rfl) (fun _ _ _ h => h) hst (EffB.run rfl rfl (fun wd hS => ?_)) (.inr (EffB.run rfl rfl (fun wd hS => ?_))) ?_
        · (go_wp2; exact ⟨rfl, Below.refl _ _⟩)
        · (go_wp2; exact ⟨rfl, Below.refl _ _⟩)
        simp only [act_norm]
        rw [EGK.out]
        refine wpAnyE_take 8 (v := .int .i64 sd2) rfl (by kernel_rfl) (by kernel_rfl) (by kernel_rfl) (fun _ _ _ h => h) hst (EffB.run rfl rfl (fun wd hS => ?_)) (.inl (by kernel_rfl)) ?_
        · (go_wp2_with fail; (with_reducible refine (GG2.out wd).mono ?_); rintro e w'' ⟨rfl, rfl⟩; exact ⟨rfl, Below.refl _ _⟩)
        simp only [act_norm]
        refine wpAnyE_take 9 rfl (by kernel_rfl) (by kernel_rfl) (by kernel_rfl) (fun _ _ _ h => h) hst (EffB.pure rfl (fun _ => rfl)) (.inr (EffB.pure rfl (fun _ => rfl))) ?_
        simp only [act_norm]
        refine wpAnyE_done (by kernel_rfl) (fun wd hS => ?_) _
        have MX := Lib.hid hS
        clear hS hst GG2
        go_wp2
        go_loopw [90] (fun j wq => ∃ m : Nat, m ≤ n ∧ j = .int .i64 (m : Nat) ∧ Mem w3 wq [(X, .cells #[.int .i64 m0, .int .i64 v0] 49 (0, 0))]) (fun j _ => n - (intOf j).toNat)
        case atStart => exact ⟨0, by omega, rfl, MX.out⟩
        case round =>
          obtain ⟨m, hm, rfl, hM⟩ := hrel
          by_cases hlm : m < n
          · have hml : m < l.length := by have := EN.out; omega
            obtain ⟨b0, b1⟩ := PS3.out.bc m hml wr hM.below
            obtain ⟨q1, q2, q3⟩ := HINV.out.ok.2 m hml
            have hfair := HINV.out.fair k m (by have := EN.out; omega) hml
            have hmin0 := (HMN.out m hlm).1
            unfold Bud.wt at q2 q3 hfair
            rw [← EX.out, ← EY.out] at hfair
            simp only at hfair
            obtain ⟨⟨m1, v1⟩, ex⟩ : ∃ x, x = l[m]?.getD default := ⟨_, rfl⟩
            rw [← ex] at b0 b1 q2 q3 hfair hmin0
            simp only at b0 b1 q2 q3 hfair hmin0
            have M1 := Lib.hid (hM.alloc (.cells #[.int .i64 m1, .int .i64 v1] 49))
            have bz := (HCH.out m hlm _ M1.out.below)
            have by1 := HCK.out _ M1.out.below
            have x1c := M1.out.cell 0 1 rfl rfl
            obtain ⟨z, ez⟩ : ∃ z, z = Bud.hv S m := ⟨_, rfl⟩
            rw [← ez] at bz q1 q2 hfair
            have egk := EGK.out
            rw [egk] at hfair
            obtain ⟨gj, egj⟩ : ∃ g, v1 - z = g := ⟨_, rfl⟩
            rw [egj] at hfair
            have wgk : IntKind.i64.wrap gk = gk := by rw [IntKind.wrap_i64]; omega
            have hmn : (m : Int) < n := by omega
            have hm0 : (0 : Int) ≤ m := by omega
            clear hM ex ez hml
            by_cases hg : m1 < z
            · have t0 : decide (m1 < z) = true := decide_eq_true hg
              have hf2 := hfair hg
              have hgj : 0 ≤ gj ∧ gj + 1 ≤ 9223372036854775807 := by omega
              have wgj : IntKind.i64.wrap gj = gj := by rw [IntKind.wrap_i64]; omega
              have wgj1 : IntKind.i64.wrap (gj + 1) = gj + 1 := by rw [IntKind.wrap_i64]; omega
              have t1 : decide (gj + 1 < gk) = false := decide_eq_false (by omega)
              have t2 : ¬ gj + 1 < gk := by omega
              clear hfair hf2
              go_wp2_with fail
              go_quiet (fail)
              go_wp2
              exact ⟨⟨m + 1, by omega, by go_num, M1.out.init.drewN _⟩, by simp [intOf]; omega⟩
            · have t0 : decide (m1 < z) = false := decide_eq_false hg
              clear hfair
              go_wp2_with fail
              go_quiet (fail)
              go_wp2
              exact ⟨⟨m + 1, by omega, by go_num, M1.out.init.drewN _⟩, by simp [intOf]; omega⟩
          · obtain rfl : m = n := by omega
            have BF := Lib.hid hM.below
            clear hM
            go_wp2
            exact ⟨⟨k + 1, by omega, by go_num, by rw [← ESA.out], by rw [← ESB.out], by rw [← ESD.out], BF.out⟩, by simp [intOf]; omega⟩
      · obtain rfl : k = n := by omega
        have htot := HTOT.out
        obtain ⟨al, eal⟩ : ∃ x, x = aa k := ⟨_, rfl⟩
        obtain ⟨tl, etl⟩ : ∃ x, x = tt k := ⟨_, rfl⟩
        obtain ⟨kl, ekl⟩ : ∃ x, x = ll k := ⟨_, rfl⟩
        rw [← eal, ← etl] at htot
        rw [← ekl] at FL
        rw [← eal, ← etl, ← ekl]
        have BR := Lib.hid (B3.out.trans (hB.mono B3.out.size))
        have IR := Lib.hid (Sl.below I3.out hB)
        clear hB eal etl ekl HTOT HBD T0 TN A0 AN L0 LN A64 L64 HINV HMN PS3 I3 B3
        by_cases hma : total ≤ al
        · obtain rfl : tl = total := by omega
          have t0 : decide (tl ≤ al) = true := decide_eq_true hma
          clear htot
          go_wp2_with fail
          (with_reducible refine (F1.out _ (HS.out.below BR.out)).mono ?_)
          rintro e w5 ⟨q5, c5, rfl, hs5, hb5⟩
          have B5 := Lib.hid (BR.out.trans (hb5.mono BR.out.size))
          have P := Lib.hid (FL.out q5 c5 p3 c3 w5 hs5 (Sl.below IR.out hb5))
          clear hs5 hb5 BR IR FL F1
          go_wp2_with fail
          (with_reducible refine P.out.mono ?_)
          rintro e w6 ⟨rfl, hb6⟩
          have B6 := Lib.hid (B5.out.trans (hb6.mono B5.out.size))
          clear hb6 P B5
          go_wp2
          go_ret
          exact ⟨rfl, B6.out⟩
        · obtain rfl : tl = al := by omega
          have t0 : decide (total ≤ tl) = false := decide_eq_false hma
          have t1 : tl < total := by omega
          clear htot
          go_wp2_with fail
          (with_reducible refine (F1.out _ (HS.out.below BR.out)).mono ?_)
          rintro e w5 ⟨q5, c5, rfl, hs5, hb5⟩
          have B5 := Lib.hid (BR.out.trans (hb5.mono BR.out.size))
          have P := Lib.hid (FL.out q5 c5 p3 c3 w5 hs5 (Sl.below IR.out hb5))
          clear hs5 hb5 BR IR FL F1
          go_wp2_with fail
          (with_reducible refine P.out.mono ?_)
          rintro e w6 ⟨rfl, hb6⟩
          have B6 := Lib.hid (B5.out.trans (hb6.mono B5.out.size))
          clear hb6 P B5
          go_wp2
          go_ret
          exact ⟨rfl, B6.out⟩
  · have F4 := Lib.hid (f4 hc)
    have hcb : (cd == 0) = false := beq_eq_false_iff_ne.2 hc
    have hcn : (cd != 0) = true := bne_iff_ne.2 hc
    clear f4 f5 hdata hmins hl
    go_enter Try.func6, Try.ntmps6
    go_wp2_with fail
    (with_reducible refine (awake51 _).mono ?_)
    rintro e w1 ⟨rfl, hb1⟩
    have B1 := Lib.hid hb1
    clear hb1
    go_wp2_with fail
    (with_reducible refine (F1.out _ (HS.out.below B1.out)).mono ?_)
    rintro e w2 ⟨q, c, rfl, hs2, hb2⟩
    have B2 := Lib.hid (B1.out.trans (hb2.mono B1.out.size))
    have S2 := Lib.hid hs2
    clear hs2 hb2 B1
    go_wp2_with fail
    (with_reducible refine (F4.out q c _ S2.out).mono ?_)
    rintro e w3 ⟨rfl, hb3⟩
    have B3 := Lib.hid (B2.out.trans (hb3.mono B2.out.size))
    clear hb3 B2 S2 F4
    go_wp2
    go_ret
    first | exact ⟨rfl, B3.out⟩ | exact ⟨ret_bool (by simp [hc]), B3.out⟩ | exact ⟨ret_bool (by rw [hcb]; rfl), B3.out⟩
end Go.Proofs.Ytcanbagnehdbiaa
