/- Layer 45: the law, walked: the least bound by which nothing is short. -/
import Derived.Test.YtildjnibdappnaaGreatJTuneC
namespace Go.Proofs.YtildjnibdappnaaGreat
open Go.ChangeShapes Go.WideShapes Go.ChangeAt Go.RowKit

set_option maxHeartbeats 4000000 in
set_option maxRecDepth 100000 in
theorem tuneCheapest_far (p : Pol) (most : Int) (h1 : 12 < most) (h2 : most ≤ 1000) (q : Option Addr) (n cap : Nat) (sa ro : Int) (w : World) :
    Calls Tryz.prog 5 #[.agg #[.int .i64 p.mn, .int .i64 p.mx, .int .i64 p.tg, .int .i64 p.tl, .int .i64 p.wi, .int .i64 p.ho], .int .i64 most, .slice q n cap, .int .i64 sa, .int .i64 ro] w fun e w' => e = .returned (.bool true) ∧ Below w.heap.size w w' := by
  have d1 : decide (12 < most) = true := decide_eq_true h1
  have d2 : decide (most ≤ 1000) = true := decide_eq_true h2
  go_enter Tryz.func5, Tryz.ntmps5
  go_wp2_with fail
  (with_reducible refine (awake45 _).mono ?_)
  rintro e w1 ⟨rfl, hb1⟩
  have M1 := Lib.hid (((Mem.start w).alloc (.cells #[.int .i64 p.mn, .int .i64 p.mx, .int .i64 p.tg, .int .i64 p.tl, .int .i64 p.wi, .int .i64 p.ho] 23)).call hb1)
  have K0 := Lib.hid (M1.out.heap 0 rfl)
  clear hb1
  go_wp2
  go_ret
  exact ⟨rfl, M1.out.below⟩

set_option maxHeartbeats 4000000 in
set_option maxRecDepth 100000 in
theorem tuneCheapest_long (p : Pol) (most : Int) (h1 : most ≤ 12 ∨ 1000 < most) (q : Option Addr) (n cap : Nat) (h3 : 10 < n) (sa ro : Int) (w : World) :
    Calls Tryz.prog 5 #[.agg #[.int .i64 p.mn, .int .i64 p.mx, .int .i64 p.tg, .int .i64 p.tl, .int .i64 p.wi, .int .i64 p.ho], .int .i64 most, .slice q n cap, .int .i64 sa, .int .i64 ro] w fun e w' => e = .returned (.bool true) ∧ Below w.heap.size w w' := by
  have dn : decide ((10 : Int) < n) = true := decide_eq_true (by omega)
  by_cases h2 : most ≤ 12
  · have d1 : decide (12 < most) = false := decide_eq_false (by omega)
    clear h1 h2 h3
    go_enter Tryz.func5, Tryz.ntmps5
    go_wp2_with fail
    (with_reducible refine (awake45 _).mono ?_)
    rintro e w1 ⟨rfl, hb1⟩
    have M1 := Lib.hid (((Mem.start w).alloc (.cells #[.int .i64 p.mn, .int .i64 p.mx, .int .i64 p.tg, .int .i64 p.tl, .int .i64 p.wi, .int .i64 p.ho] 23)).call hb1)
    have K0 := Lib.hid (M1.out.heap 0 rfl)
    clear hb1
    go_wp2
    go_ret
    exact ⟨rfl, M1.out.below⟩
  have d1 : decide (12 < most) = true := decide_eq_true (by omega)
  have d2 : decide (most ≤ 1000) = false := decide_eq_false (by omega)
  clear h1 h2 h3
  go_enter Tryz.func5, Tryz.ntmps5
  go_wp2_with fail
  (with_reducible refine (awake45 _).mono ?_)
  rintro e w1 ⟨rfl, hb1⟩
  have M1 := Lib.hid (((Mem.start w).alloc (.cells #[.int .i64 p.mn, .int .i64 p.mx, .int .i64 p.tg, .int .i64 p.tl, .int .i64 p.wi, .int .i64 p.ho] 23)).call hb1)
  have K0 := Lib.hid (M1.out.heap 0 rfl)
  clear hb1
  go_wp2
  go_ret
  exact ⟨rfl, M1.out.below⟩

set_option maxHeartbeats 4000000 in
set_option maxRecDepth 100000 in
theorem tuneCheapest_no (p : Pol) (most : Int) (h1 : most ≤ 12 ∨ 1000 < most) (h : p.ok = false ∨ most < 1 ∨ 1000 < most) (q : Option Addr) (n cap : Nat) (h3 : n ≤ 10) (sa ro : Int) (w : World) :
    Calls Tryz.prog 5 #[.agg #[.int .i64 p.mn, .int .i64 p.mx, .int .i64 p.tg, .int .i64 p.tl, .int .i64 p.wi, .int .i64 p.ho], .int .i64 most, .slice q n cap, .int .i64 sa, .int .i64 ro] w fun e w' => e = .returned (.bool true) ∧ Below w.heap.size w w' := by
  have dn : decide ((10 : Int) < n) = false := decide_eq_false (by omega)
  have HR := Lib.hid (fun W => tune_cheapest_no p most h q n cap sa ro W)
  have HK := Lib.hid (fun W => ref_polRight p W)
  by_cases h2 : most ≤ 12
  · have d1 : decide (12 < most) = false := decide_eq_false (by omega)
    cases hok : p.ok with
    | false =>
      rw [hok] at HK
      clear h1 h2 h3 h hok
      go_enter Tryz.func5, Tryz.ntmps5
      go_wp2_with fail
      (with_reducible refine (awake45 _).mono ?_)
      rintro e w1 ⟨rfl, hb1⟩
      have M1 := Lib.hid (((Mem.start w).alloc (.cells #[.int .i64 p.mn, .int .i64 p.mx, .int .i64 p.tg, .int .i64 p.tl, .int .i64 p.wi, .int .i64 p.ho] 23)).call hb1)
      have K0 := Lib.hid (M1.out.heap 0 rfl)
      clear hb1
      go_wp2_with ((with_reducible refine wpList_load_rowAs rfl 23 _ rfl (w.heap.size) ?_ 23 #[.int .i64 p.mn, .int .i64 p.mx, .int .i64 p.tg, .int .i64 p.tl, .int .i64 p.wi, .int .i64 p.ho] (0, 0) _ 6 ?_ Tryz.underlying23 rfl (by kernel_rfl) ?_ ?_); exact rfl; exact K0.out; exact rfl)
      (with_reducible refine (HR.out _).mono ?_)
      rintro e w2 ⟨rfl, hb2⟩
      have M2 := Lib.hid (M1.out.call hb2)
      have K2 := Lib.hid (M2.out.heap 0 rfl)
      clear hb2 M1 K0
      go_wp2_with ((with_reducible refine wpList_load_rowAs rfl 23 _ rfl (w.heap.size) ?_ 23 #[.int .i64 p.mn, .int .i64 p.mx, .int .i64 p.tg, .int .i64 p.tl, .int .i64 p.wi, .int .i64 p.ho] (0, 0) _ 6 ?_ Tryz.underlying23 rfl (by kernel_rfl) ?_ ?_); exact rfl; exact K2.out; exact rfl)
      (with_reducible refine (HK.out _).mono ?_)
      rintro e w3 ⟨rfl, hb3⟩
      have M3 := Lib.hid (M2.out.call hb3)
      clear hb3 M2 K2
      go_wp2
      go_ret
      exact ⟨rfl, M3.out.below⟩
    | true =>
      rw [hok] at HK
      have d3 : decide (most < 1) = true := decide_eq_true (by rcases h with h | h | h; rw [hok] at h; cases h; exact h; omega)
      clear h1 h2 h3 h hok
      go_enter Tryz.func5, Tryz.ntmps5
      go_wp2_with fail
      (with_reducible refine (awake45 _).mono ?_)
      rintro e w1 ⟨rfl, hb1⟩
      have M1 := Lib.hid (((Mem.start w).alloc (.cells #[.int .i64 p.mn, .int .i64 p.mx, .int .i64 p.tg, .int .i64 p.tl, .int .i64 p.wi, .int .i64 p.ho] 23)).call hb1)
      have K0 := Lib.hid (M1.out.heap 0 rfl)
      clear hb1
      go_wp2_with ((with_reducible refine wpList_load_rowAs rfl 23 _ rfl (w.heap.size) ?_ 23 #[.int .i64 p.mn, .int .i64 p.mx, .int .i64 p.tg, .int .i64 p.tl, .int .i64 p.wi, .int .i64 p.ho] (0, 0) _ 6 ?_ Tryz.underlying23 rfl (by kernel_rfl) ?_ ?_); exact rfl; exact K0.out; exact rfl)
      (with_reducible refine (HR.out _).mono ?_)
      rintro e w2 ⟨rfl, hb2⟩
      have M2 := Lib.hid (M1.out.call hb2)
      have K2 := Lib.hid (M2.out.heap 0 rfl)
      clear hb2 M1 K0
      go_wp2_with ((with_reducible refine wpList_load_rowAs rfl 23 _ rfl (w.heap.size) ?_ 23 #[.int .i64 p.mn, .int .i64 p.mx, .int .i64 p.tg, .int .i64 p.tl, .int .i64 p.wi, .int .i64 p.ho] (0, 0) _ 6 ?_ Tryz.underlying23 rfl (by kernel_rfl) ?_ ?_); exact rfl; exact K2.out; exact rfl)
      (with_reducible refine (HK.out _).mono ?_)
      rintro e w3 ⟨rfl, hb3⟩
      have M3 := Lib.hid (M2.out.call hb3)
      clear hb3 M2 K2
      go_wp2
      go_ret
      exact ⟨rfl, M3.out.below⟩
  have d1 : decide (12 < most) = true := decide_eq_true (by omega)
  have d2 : decide (most ≤ 1000) = false := decide_eq_false (by omega)
  cases hok : p.ok with
  | false =>
    rw [hok] at HK
    clear h1 h2 h3 h hok
    go_enter Tryz.func5, Tryz.ntmps5
    go_wp2_with fail
    (with_reducible refine (awake45 _).mono ?_)
    rintro e w1 ⟨rfl, hb1⟩
    have M1 := Lib.hid (((Mem.start w).alloc (.cells #[.int .i64 p.mn, .int .i64 p.mx, .int .i64 p.tg, .int .i64 p.tl, .int .i64 p.wi, .int .i64 p.ho] 23)).call hb1)
    have K0 := Lib.hid (M1.out.heap 0 rfl)
    clear hb1
    go_wp2_with ((with_reducible refine wpList_load_rowAs rfl 23 _ rfl (w.heap.size) ?_ 23 #[.int .i64 p.mn, .int .i64 p.mx, .int .i64 p.tg, .int .i64 p.tl, .int .i64 p.wi, .int .i64 p.ho] (0, 0) _ 6 ?_ Tryz.underlying23 rfl (by kernel_rfl) ?_ ?_); exact rfl; exact K0.out; exact rfl)
    (with_reducible refine (HR.out _).mono ?_)
    rintro e w2 ⟨rfl, hb2⟩
    have M2 := Lib.hid (M1.out.call hb2)
    have K2 := Lib.hid (M2.out.heap 0 rfl)
    clear hb2 M1 K0
    go_wp2_with ((with_reducible refine wpList_load_rowAs rfl 23 _ rfl (w.heap.size) ?_ 23 #[.int .i64 p.mn, .int .i64 p.mx, .int .i64 p.tg, .int .i64 p.tl, .int .i64 p.wi, .int .i64 p.ho] (0, 0) _ 6 ?_ Tryz.underlying23 rfl (by kernel_rfl) ?_ ?_); exact rfl; exact K2.out; exact rfl)
    (with_reducible refine (HK.out _).mono ?_)
    rintro e w3 ⟨rfl, hb3⟩
    have M3 := Lib.hid (M2.out.call hb3)
    clear hb3 M2 K2
    go_wp2
    go_ret
    exact ⟨rfl, M3.out.below⟩
  | true =>
    rw [hok] at HK
    have d3 : decide (most < 1) = false := decide_eq_false (by omega)
    have d4 : decide (1000 < most) = true := decide_eq_true (by omega)
    clear h1 h2 h3 h hok
    go_enter Tryz.func5, Tryz.ntmps5
    go_wp2_with fail
    (with_reducible refine (awake45 _).mono ?_)
    rintro e w1 ⟨rfl, hb1⟩
    have M1 := Lib.hid (((Mem.start w).alloc (.cells #[.int .i64 p.mn, .int .i64 p.mx, .int .i64 p.tg, .int .i64 p.tl, .int .i64 p.wi, .int .i64 p.ho] 23)).call hb1)
    have K0 := Lib.hid (M1.out.heap 0 rfl)
    clear hb1
    go_wp2_with ((with_reducible refine wpList_load_rowAs rfl 23 _ rfl (w.heap.size) ?_ 23 #[.int .i64 p.mn, .int .i64 p.mx, .int .i64 p.tg, .int .i64 p.tl, .int .i64 p.wi, .int .i64 p.ho] (0, 0) _ 6 ?_ Tryz.underlying23 rfl (by kernel_rfl) ?_ ?_); exact rfl; exact K0.out; exact rfl)
    (with_reducible refine (HR.out _).mono ?_)
    rintro e w2 ⟨rfl, hb2⟩
    have M2 := Lib.hid (M1.out.call hb2)
    have K2 := Lib.hid (M2.out.heap 0 rfl)
    clear hb2 M1 K0
    go_wp2_with ((with_reducible refine wpList_load_rowAs rfl 23 _ rfl (w.heap.size) ?_ 23 #[.int .i64 p.mn, .int .i64 p.mx, .int .i64 p.tg, .int .i64 p.tl, .int .i64 p.wi, .int .i64 p.ho] (0, 0) _ 6 ?_ Tryz.underlying23 rfl (by kernel_rfl) ?_ ?_); exact rfl; exact K2.out; exact rfl)
    (with_reducible refine (HK.out _).mono ?_)
    rintro e w3 ⟨rfl, hb3⟩
    have M3 := Lib.hid (M2.out.call hb3)
    clear hb3 M2 K2
    go_wp2
    go_ret
    exact ⟨rfl, M3.out.below⟩

set_option maxHeartbeats 4000000 in
set_option maxRecDepth 100000 in
theorem tuneCheapest_fine (p : Pol) (hp : p.In) (hok : p.ok = true) (K : Nat) (h1 : 1 ≤ K) (h2 : K ≤ 12) (q : Option Addr) (cap : Nat) (l : List Samp) (hl : ∀ a ∈ l, a.In) (hb : l.length ≤ 10) (sa ro : Int) (w : World) (hs : Samps w q l) :
    Calls Tryz.prog 5 #[.agg #[.int .i64 p.mn, .int .i64 p.mx, .int .i64 p.tg, .int .i64 p.tl, .int .i64 p.wi, .int .i64 p.ho], .int .i64 K, .slice q l.length cap, .int .i64 sa, .int .i64 ro] w fun e w' => e = .returned (.bool true) ∧ Below w.heap.size w w' := by
  have d1 : decide (12 < (K : Int)) = false := decide_eq_false (by omega)
  have d3 : decide ((K : Int) < 1) = false := decide_eq_false (by omega)
  have d4 : decide (1000 < (K : Int)) = false := decide_eq_false (by omega)
  have hmax : max p.mn 1 = (((max p.mn 1).toNat : Nat) : Int) := by omega
  obtain ⟨r, hr⟩ : ∃ r, r = Chp.look (Chp.at p l sa ro) (max p.mn 1).toNat (K + 1 - (max p.mn 1).toNat) := ⟨_, rfl⟩
  obtain ⟨best, found⟩ := r
  have HR := Lib.hid (fun (W : World) (h : Samps W q l) => tune_cheapest p hp hok K h1 (by omega) q cap l hl (by omega) sa ro W h best found hr.symm)
  have HK := Lib.hid (fun W => ref_polRight p W)
  rw [hok] at HK
  obtain ⟨N0, eN0⟩ : ∃ N, N = (max p.mn 1).toNat := ⟨_, rfl⟩
  rw [← eN0] at hmax hr
  have hN0 : 1 ≤ N0 := by omega
  have F1 := Lib.hid (fun (v : Int) (W : World) => ref45_with p 2 v W)
  have F2 := Lib.hid (fun (v : Int) (hv : I64 v) (W : World) (h : Samps W q l) => run45_any (Pol.with p 2 v) (Pol.with_two_In hp hv) q cap l hl (by omega) sa ro W h)
  have HG := Lib.hid (fun n : Nat => show Chp.good (Pol.with p 2 n) l sa ro = Chp.at p l sa ro n from rfl)
  obtain ⟨g, eg⟩ : ∃ g, g = Chp.at p l sa ro := ⟨_, rfl⟩
  rw [← eg] at hr HG
  have HS := Lib.hid hs
  have HL := Lib.hid hr.symm
  have HMAX := Lib.hid hmax
  obtain ⟨n', en⟩ : ∃ n, n = l.length := ⟨_, rfl⟩
  rw [← en] at hb
  simp only [← en] at F2 HR ⊢
  have dn : decide ((10 : Int) < n') = false := decide_eq_false (by omega)
  clear hok hs hl hp hb en eg eN0 hr hmax
  go_enter Tryz.func5, Tryz.ntmps5
  go_wp2_with fail
  (with_reducible refine (awake45 _).mono ?_)
  rintro e w1 ⟨rfl, hb1⟩
  have M1 := Lib.hid (((Mem.start w).alloc (.cells #[.int .i64 p.mn, .int .i64 p.mx, .int .i64 p.tg, .int .i64 p.tl, .int .i64 p.wi, .int .i64 p.ho] 23)).call hb1)
  have K0 := Lib.hid (M1.out.heap 0 rfl)
  clear hb1
  go_wp2_with ((with_reducible refine wpList_load_rowAs rfl 23 _ rfl (w.heap.size) ?_ 23 #[.int .i64 p.mn, .int .i64 p.mx, .int .i64 p.tg, .int .i64 p.tl, .int .i64 p.wi, .int .i64 p.ho] (0, 0) _ 6 ?_ Tryz.underlying23 rfl (by kernel_rfl) ?_ ?_); exact rfl; exact K0.out; exact rfl)
  (with_reducible refine (HR.out _ (HS.out.below M1.out.below)).mono ?_)
  rintro e w2 ⟨rfl, hb2⟩
  have M2 := Lib.hid (M1.out.call hb2)
  have K2 := Lib.hid (M2.out.heap 0 rfl)
  clear hb2 M1 K0
  go_wp2_with ((with_reducible refine wpList_load_rowAs rfl 23 _ rfl (w.heap.size) ?_ 23 #[.int .i64 p.mn, .int .i64 p.mx, .int .i64 p.tg, .int .i64 p.tl, .int .i64 p.wi, .int .i64 p.ho] (0, 0) _ 6 ?_ Tryz.underlying23 rfl (by kernel_rfl) ?_ ?_); exact rfl; exact K2.out; exact rfl)
  (with_reducible refine (HK.out _).mono ?_)
  rintro e w3 ⟨rfl, hb3⟩
  have M3 := Lib.hid (M2.out.call hb3)
  clear hb3 M2 K2
  have c0 := M3.out.cell 0 0 rfl rfl
  go_upto_region 8 with fail
  go_cut [13] from 55 to 85 (fun s13 wx => s13 = .int .i64 N0 ∧ wx = w3)
  case first =>
    go_wp2_with fail
    all_goals go_meet
    all_goals exact ⟨by have := HMAX.out; congr 1; omega, rfl⟩
  case rest =>
    obtain ⟨rfl, rfl⟩ := hcut
    clear c0 HMAX
    go_wp2
    go_loopw [13] (fun i wr => ∃ n : Nat, 1 ≤ n ∧ i = .int .i64 (n : Nat) ∧ Chp.look g n (K + 1 - n) = (best, found) ∧ Mem w wr [(w.heap.size, .cells #[.int .i64 p.mn, .int .i64 p.mx, .int .i64 p.tg, .int .i64 p.tl, .int .i64 p.wi, .int .i64 p.ho] 23)]) (fun i _ => K + 1 - (intOf i).toNat)
    case atStart => exact ⟨N0, hN0, rfl, HL.out, M3.out⟩
    case round =>
      obtain ⟨n, hn, rfl, hlk, hM⟩ := hrel
      by_cases hle : n ≤ K
      · have dn2 : decide ((n : Int) ≤ (K : Int)) = true := decide_eq_true (by omega)
        have f1 := F1.out (n : Int)
        have f2 := F2.out (n : Int) (by unfold I64; omega)
        rw [HG.out n] at f2
        have HY := Lib.hid (fun h : g n = true => (Chp.look_yes hle h).symm.trans hlk)
        have HN := Lib.hid (fun h : g n = false => (Chp.look_no hle h).symm.trans hlk)
        obtain ⟨Q, eQ⟩ : ∃ Q, Q = Pol.with p 2 (n : Int) := ⟨_, rfl⟩
        simp only [← eQ] at f1 f2
        obtain ⟨gn, egn⟩ : ∃ b, b = g n := ⟨_, rfl⟩
        rw [← egn] at HY HN
        simp only [← egn] at f2
        obtain ⟨mn, mx, tg, tl, wi, ho⟩ := Q
        have G1 := Lib.hid f1
        have G2 := Lib.hid f2
        have M4 := Lib.hid hM
        have K4 := Lib.hid (hM.heap 0 rfl)
        clear f1 f2 hlk hM egn eQ
        go_wp2_with ((with_reducible refine wpList_load_rowAs rfl 23 _ rfl (w.heap.size) ?_ 23 #[.int .i64 p.mn, .int .i64 p.mx, .int .i64 p.tg, .int .i64 p.tl, .int .i64 p.wi, .int .i64 p.ho] (0, 0) _ 6 ?_ Tryz.underlying23 rfl (by kernel_rfl) ?_ ?_); exact rfl; exact K4.out; exact rfl)
        (with_reducible refine (G1.out _).mono ?_)
        rintro e w5 ⟨rfl, hb5⟩
        have M5 := Lib.hid (M4.out.call hb5)
        clear hb5 M4 K4
        go_wp2_with fail
        (with_reducible refine (G2.out _ (HS.out.below M5.out.below)).mono ?_)
        rintro e w6 ⟨u, m, d, C, T, a, b, x, y, c, rfl, hg, hb6⟩
        have M6 := Lib.hid ((M5.out.call hb6).alloc (.cells #[.slice u m d, .int .i64 C, .int .i64 T, .int .i64 a, .int .i64 b, .int .i64 x, .int .i64 y] 34))
        have c6 := M6.out.cell 1 6 rfl rfl
        have HGG := Lib.hid hg
        clear hb6 hg M5
        by_cases hc : c = 0
        · subst hc
          by_cases hy : y = 0
          · subst hy
            have hgn : gn = true := HGG.out.symm
            have hyes := HY.out hgn
            clear HGG HY HN hgn HL
            obtain ⟨rfl, rfl⟩ : (n : Int) = best ∧ true = found := by simpa using hyes
            clear hyes
            go_wp2_with ((with_reducible refine wpList_store_rowAs rfl 34 _ _ rfl (w6.heap.size) #[.slice u m d, .int .i64 C, .int .i64 T, .int .i64 a, .int .i64 b, .int .i64 x, .int .i64 y] ?_ ?_ 34 #[.slice none 0 0, .int .i64 0, .int .i64 0, .int .i64 0, .int .i64 0, .int .i64 0, .int .i64 0] 7 ?_ (by kernel_rfl) rfl rfl (by simp [Value.oneCell']) ?_); exact rfl; exact rfl; exact (heap_alloc_at _ _ _ rfl); (first | rw [row_1_0] | rw [row_2_0] | rw [row_2_1] | rw [row_3_0] | rw [row_3_1] | rw [row_3_2] | rw [row_4_0] | rw [row_4_1] | rw [row_4_2] | rw [row_4_3] | rw [row_5_0] | rw [row_5_1] | rw [row_5_2] | rw [row_5_3] | rw [row_5_4] | rw [row_6_0] | rw [row_6_1] | rw [row_6_2] | rw [row_6_3] | rw [row_6_4] | rw [row_6_5] | simp only [setRow_alloc_past, setRow_alloc_at, World.size_alloc, Nat.add_assoc, Nat.reduceAdd, Nat.lt_add_right_iff_pos, Nat.add_lt_add_iff_left, Nat.reduceLT, Nat.zero_lt_succ, Nat.lt_add_one]))
            go_ret
            exact ⟨rfl, M6.out.below⟩
          · have hgn : gn = false := by rw [← HGG.out, decide_eq_false hy]; rfl
            have by0 : (y == 0) = false := beq_eq_false_iff_ne.2 hy
            have hno := Lib.hid (HN.out hgn)
            clear HGG HY HN hgn hy
            go_wp2_with ((with_reducible refine wpList_store_rowAs rfl 34 _ _ rfl (w6.heap.size) #[.slice u m d, .int .i64 C, .int .i64 T, .int .i64 a, .int .i64 b, .int .i64 x, .int .i64 y] ?_ ?_ 34 #[.slice none 0 0, .int .i64 0, .int .i64 0, .int .i64 0, .int .i64 0, .int .i64 0, .int .i64 0] 7 ?_ (by kernel_rfl) rfl rfl (by simp [Value.oneCell']) ?_); exact rfl; exact rfl; exact (heap_alloc_at _ _ _ rfl); (first | rw [row_1_0] | rw [row_2_0] | rw [row_2_1] | rw [row_3_0] | rw [row_3_1] | rw [row_3_2] | rw [row_4_0] | rw [row_4_1] | rw [row_4_2] | rw [row_4_3] | rw [row_5_0] | rw [row_5_1] | rw [row_5_2] | rw [row_5_3] | rw [row_5_4] | rw [row_6_0] | rw [row_6_1] | rw [row_6_2] | rw [row_6_3] | rw [row_6_4] | rw [row_6_5] | simp only [setRow_alloc_past, setRow_alloc_at, World.size_alloc, Nat.add_assoc, Nat.reduceAdd, Nat.lt_add_right_iff_pos, Nat.add_lt_add_iff_left, Nat.reduceLT, Nat.zero_lt_succ, Nat.lt_add_one]))
            exact ⟨⟨n + 1, by omega, by go_num, hno.out, M6.out.init⟩, by simp [intOf]; omega⟩
        · have hgn : gn = false := by rw [← HGG.out, decide_eq_false hc]; rfl
          have bc0 : (c == 0) = false := beq_eq_false_iff_ne.2 hc
          have hno := Lib.hid (HN.out hgn)
          clear HGG HY HN hgn hc
          go_wp2_with ((with_reducible refine wpList_store_rowAs rfl 34 _ _ rfl (w6.heap.size) #[.slice u m d, .int .i64 C, .int .i64 T, .int .i64 a, .int .i64 b, .int .i64 x, .int .i64 y] ?_ ?_ 34 #[.slice none 0 0, .int .i64 0, .int .i64 0, .int .i64 0, .int .i64 0, .int .i64 0, .int .i64 0] 7 ?_ (by kernel_rfl) rfl rfl (by simp [Value.oneCell']) ?_); exact rfl; exact rfl; exact (heap_alloc_at _ _ _ rfl); (first | rw [row_1_0] | rw [row_2_0] | rw [row_2_1] | rw [row_3_0] | rw [row_3_1] | rw [row_3_2] | rw [row_4_0] | rw [row_4_1] | rw [row_4_2] | rw [row_4_3] | rw [row_5_0] | rw [row_5_1] | rw [row_5_2] | rw [row_5_3] | rw [row_5_4] | rw [row_6_0] | rw [row_6_1] | rw [row_6_2] | rw [row_6_3] | rw [row_6_4] | rw [row_6_5] | simp only [setRow_alloc_past, setRow_alloc_at, World.size_alloc, Nat.add_assoc, Nat.reduceAdd, Nat.lt_add_right_iff_pos, Nat.add_lt_add_iff_left, Nat.reduceLT, Nat.zero_lt_succ, Nat.lt_add_one]))
          exact ⟨⟨n + 1, by omega, by go_num, hno.out, M6.out.init⟩, by simp [intOf]; omega⟩
      · have dn2 : decide ((n : Int) ≤ (K : Int)) = false := decide_eq_false (by omega)
        have hend := (Chp.look_end hle).symm.trans hlk
        clear HL
        obtain ⟨rfl, rfl⟩ : (0 : Int) = best ∧ false = found := by simpa using hend
        have M4 := Lib.hid hM
        clear hM hlk hend
        go_wp2
        go_ret
        exact ⟨rfl, M4.out.below⟩

theorem tuneCheapest_walk (p : Pol) (hp : p.In) (most : Int) (q : Option Addr) (cap : Nat) (l : List Samp) (hl : ∀ a ∈ l, a.In) (sa ro : Int) (w : World) (hs : Samps w q l) :
    Calls Tryz.prog 5 #[.agg #[.int .i64 p.mn, .int .i64 p.mx, .int .i64 p.tg, .int .i64 p.tl, .int .i64 p.wi, .int .i64 p.ho], .int .i64 most, .slice q l.length cap, .int .i64 sa, .int .i64 ro] w fun e w' => e = .returned (.bool true) ∧ Below w.heap.size w w' := by
  by_cases h1 : 12 < most ∧ most ≤ 1000
  · exact tuneCheapest_far p most h1.1 h1.2 q l.length cap sa ro w
  · by_cases h2 : 10 < l.length
    · exact tuneCheapest_long p most (by omega) q l.length cap h2 sa ro w
    · by_cases h3 : p.ok = false ∨ most < 1 ∨ 1000 < most
      · exact tuneCheapest_no p most (by omega) h3 q l.length cap (by omega) sa ro w
      · have hok : p.ok = true := by cases h : p.ok with | true => rfl | false => exact absurd (.inl h) h3
        obtain ⟨K, rfl⟩ : ∃ K : Nat, most = K := ⟨most.toNat, by omega⟩
        exact tuneCheapest_fine p hp hok K (by omega) (by omega) q cap l hl (by omega) sa ro w hs
end Go.Proofs.YtildjnibdappnaaGreat
