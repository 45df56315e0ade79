/- Layer 45: the least bound by which nothing is short. -/
import Derived.Test.YtildjnibdappnaaGreatJTuneR
import Derived.Test.YtildjnibdappnaaGreatJLaws45
namespace Go.Proofs.YtildjnibdappnaaGreat
open Go.ChangeShapes Go.WideShapes Go.ChangeAt Go.RowKit

/-- The first of k numbers from n that is good. -/
def Chp.look (g : Nat → Bool) : Nat → Nat → Int × Bool
  | _, 0 => (0, false)
  | n, k + 1 => if g n = true then ((n : Int), true) else Chp.look g (n + 1) k
theorem Chp.look_yes {g : Nat → Bool} {n K : Nat} (h : n ≤ K) (hg : g n = true) : Chp.look g n (K + 1 - n) = ((n : Int), true) := by
  rw [show K + 1 - n = (K - n) + 1 by omega, Chp.look, if_pos hg]
theorem Chp.look_no {g : Nat → Bool} {n K : Nat} (h : n ≤ K) (hg : g n = false) : Chp.look g n (K + 1 - n) = Chp.look g (n + 1) (K + 1 - (n + 1)) := by
  rw [show K + 1 - n = (K - n) + 1 by omega, Chp.look, if_neg (by rw [hg]; simp), show K - n = K + 1 - (n + 1) by omega]
theorem Chp.look_end {g : Nat → Bool} {n K : Nat} (h : ¬ n ≤ K) : Chp.look g n (K + 1 - n) = (0, false) := by
  rw [show K + 1 - n = 0 by omega]; rfl
def Chp.at (p : Pol) (l : List Samp) (sa ro : Int) (n : Nat) : Bool := Chp.good (Pol.with p 2 n) l sa ro
theorem Pol.with_two (p : Pol) (v : Int) : Pol.with p 2 v = ⟨p.mn, v, p.tg, p.tl, p.wi, p.ho⟩ := rfl
theorem Pol.with_two_In {p : Pol} (h : p.In) {v : Int} (hv : I64 v) : (Pol.with p 2 v).In := by
  rw [Pol.with_two]
  obtain ⟨a, _, b, c, d, e⟩ := h
  exact ⟨a, hv, b, c, d, e⟩

set_option maxRecDepth 100000 in
theorem tune_cheapest_no (p : Pol) (most : Int) (h : p.ok = false ∨ most < 1 ∨ 1000 < most) (q : Option Addr) (n cap : Nat) (sa ro : Int) (w : World) :
    Calls Tryz.prog 17 #[.agg #[.int .i64 p.mn, .int .i64 p.mx, .int .i64 p.tg, .int .i64 p.tl, .int .i64 p.wi, .int .i64 p.ho], .int .i64 most, .slice q n cap, .int .i64 sa, .int .i64 ro] w fun e w' => e = .returned (.tuple #[.int .i64 0, .bool false]) ∧ Below w.heap.size w w' := by
  have HC := Lib.hid (fun W => policy_check p W)
  have M0 : Hid (Mem w (w.alloc (.cells #[.int .i64 p.mn, .int .i64 p.mx, .int .i64 p.tg, .int .i64 p.tl, .int .i64 p.wi, .int .i64 p.ho] 23)) [(w.heap.size, .cells #[.int .i64 p.mn, .int .i64 p.mx, .int .i64 p.tg, .int .i64 p.tl, .int .i64 p.wi, .int .i64 p.ho] 23)]) := (Mem.start w).alloc _
  cases hok : p.ok with
  | false =>
    have he : p.err = 7 := by unfold Pol.err; rw [if_neg (by rw [hok]; simp)]
    rw [he] at HC
    clear he hok h
    go_enter Tryz.func17, Tryz.ntmps17
    have K0 := Lib.hid (M0.out.heap 0 rfl)
    go_wp2_with ((with_reducible refine wpList_load_rowAs rfl 23 _ rfl (w.heap.size) ?_ 23 #[.int .i64 p.mn, .int .i64 p.mx, .int .i64 p.tg, .int .i64 p.tl, .int .i64 p.wi, .int .i64 p.ho] (0, 0) _ 6 ?_ Tryz.underlying23 rfl (by kernel_rfl) ?_ ?_); exact rfl; exact K0.out; exact rfl)
    (with_reducible refine (HC.out _).mono ?_)
    rintro e w1 ⟨rfl, hb1⟩
    have M1 := Lib.hid (M0.out.call hb1)
    clear hb1 M0 K0
    go_wp2
    exact bodyPost_ret (results_tmp2 rfl _ _ _) rfl ⟨rfl, M1.out.below⟩
  | true =>
    have he : p.err = 0 := by unfold Pol.err; rw [if_pos hok]
    rw [he] at HC
    by_cases h1 : most < 1
    · have d1 : decide (most < 1) = true := decide_eq_true h1
      clear he hok h
      go_enter Tryz.func17, Tryz.ntmps17
      have K0 := Lib.hid (M0.out.heap 0 rfl)
      go_wp2_with ((with_reducible refine wpList_load_rowAs rfl 23 _ rfl (w.heap.size) ?_ 23 #[.int .i64 p.mn, .int .i64 p.mx, .int .i64 p.tg, .int .i64 p.tl, .int .i64 p.wi, .int .i64 p.ho] (0, 0) _ 6 ?_ Tryz.underlying23 rfl (by kernel_rfl) ?_ ?_); exact rfl; exact K0.out; exact rfl)
      (with_reducible refine (HC.out _).mono ?_)
      rintro e w1 ⟨rfl, hb1⟩
      have M1 := Lib.hid (M0.out.call hb1)
      clear hb1 M0 K0
      go_wp2
      exact bodyPost_ret (results_tmp2 rfl _ _ _) rfl ⟨rfl, M1.out.below⟩
    · have d1 : decide (most < 1) = false := decide_eq_false h1
      have d2 : decide (1000 < most) = true := decide_eq_true (by rcases h with h | h | h; rw [hok] at h; cases h; exact absurd h h1; exact h)
      clear he hok h
      go_enter Tryz.func17, Tryz.ntmps17
      have K0 := Lib.hid (M0.out.heap 0 rfl)
      go_wp2_with ((with_reducible refine wpList_load_rowAs rfl 23 _ rfl (w.heap.size) ?_ 23 #[.int .i64 p.mn, .int .i64 p.mx, .int .i64 p.tg, .int .i64 p.tl, .int .i64 p.wi, .int .i64 p.ho] (0, 0) _ 6 ?_ Tryz.underlying23 rfl (by kernel_rfl) ?_ ?_); exact rfl; exact K0.out; exact rfl)
      (with_reducible refine (HC.out _).mono ?_)
      rintro e w1 ⟨rfl, hb1⟩
      have M1 := Lib.hid (M0.out.call hb1)
      clear hb1 M0 K0
      go_wp2
      exact bodyPost_ret (results_tmp2 rfl _ _ _) rfl ⟨rfl, M1.out.below⟩

set_option maxHeartbeats 2000000 in
set_option maxRecDepth 100000 in
theorem tune_cheapest (p : Pol) (hp : p.In) (hok : p.ok = true) (K : Nat) (h1 : 1 ≤ K) (h2 : K ≤ 1000) (q : Option Addr) (cap : Nat) (l : List Samp) (hl : ∀ a ∈ l, a.In) (hb : l.length ≤ 1000) (sa ro : Int) (w : World) (hs : Samps w q l)
    (best : Int) (found : Bool) (hr : Chp.look (Chp.at p l sa ro) (max p.mn 1).toNat (K + 1 - (max p.mn 1).toNat) = (best, found)) :
    Calls Tryz.prog 17 #[.agg #[.int .i64 p.mn, .int .i64 p.mx, .int .i64 p.tg, .int .i64 p.tl, .int .i64 p.wi, .int .i64 p.ho], .int .i64 K, .slice q l.length cap, .int .i64 sa, .int .i64 ro] w fun e w' => e = .returned (.tuple #[.int .i64 best, .bool found]) ∧ Below w.heap.size w w' := by
  have HC := Lib.hid (fun W => policy_check p W)
  have M0 : Hid (Mem w (w.alloc (.cells #[.int .i64 p.mn, .int .i64 p.mx, .int .i64 p.tg, .int .i64 p.tl, .int .i64 p.wi, .int .i64 p.ho] 23)) [(w.heap.size, .cells #[.int .i64 p.mn, .int .i64 p.mx, .int .i64 p.tg, .int .i64 p.tl, .int .i64 p.wi, .int .i64 p.ho] 23)]) := (Mem.start w).alloc _
  have he : p.err = 0 := by unfold Pol.err; rw [if_pos hok]
  rw [he] at HC
  have d1 : decide ((K : Int) < 1) = false := decide_eq_false (by omega)
  have d2 : decide ((1000 : Int) < K) = false := decide_eq_false (by omega)
  have hmax : max p.mn 1 = (((max p.mn 1).toNat : Nat) : Int) := by omega
  obtain ⟨N0, eN0⟩ : ∃ N, N = (max p.mn 1).toNat := ⟨_, rfl⟩
  rw [← eN0] at hmax hr
  have hN0 : 1 ≤ N0 := by omega
  have F1 := Lib.hid (fun (v : Int) (W : World) => tune_with p 2 v W)
  have F2 := Lib.hid (fun (v : Int) (hv : I64 v) (W : World) (h : Samps W q l) => run_any (Pol.with p 2 v) (Pol.with_two_In hp hv) q cap l hl hb sa ro W h)
  have HG := Lib.hid (fun n : Nat => show Chp.good (Pol.with p 2 n) l sa ro = Chp.at p l sa ro n from rfl)
  obtain ⟨g, eg⟩ : ∃ g, g = Chp.at p l sa ro := ⟨_, rfl⟩
  rw [← eg] at hr HG
  have HS := Lib.hid hs
  have HR := Lib.hid hr
  have HMAX := Lib.hid hmax
  obtain ⟨n', en⟩ : ∃ n, n = l.length := ⟨_, rfl⟩
  simp only [← en] at F2 ⊢
  clear he hok hs hl hp hb en eg eN0 hr hmax
  go_enter Tryz.func17, Tryz.ntmps17
  have K0 := Lib.hid (M0.out.heap 0 rfl)
  go_wp2_with ((with_reducible refine wpList_load_rowAs rfl 23 _ rfl (w.heap.size) ?_ 23 #[.int .i64 p.mn, .int .i64 p.mx, .int .i64 p.tg, .int .i64 p.tl, .int .i64 p.wi, .int .i64 p.ho] (0, 0) _ 6 ?_ Tryz.underlying23 rfl (by kernel_rfl) ?_ ?_); exact rfl; exact K0.out; exact rfl)
  (with_reducible refine (HC.out _).mono ?_)
  rintro e w1 ⟨rfl, hb1⟩
  have M1 := Lib.hid (M0.out.call hb1)
  have c0 := M1.out.cell 0 0 rfl rfl
  clear hb1 M0 K0
  go_upto_region 3 with fail
  go_cut [12] from 26 to 51 (fun s12 wx => s12 = .int .i64 N0 ∧ wx = w1)
  case first =>
    go_wp2_with fail
    all_goals go_meet
    all_goals exact ⟨by have := HMAX.out; congr 1; omega, rfl⟩
  case rest =>
    obtain ⟨rfl, rfl⟩ := hcut
    clear c0 HMAX
    go_wp2
    go_loopw [12] (fun i wr => ∃ n : Nat, 1 ≤ n ∧ i = .int .i64 (n : Nat) ∧ Chp.look g n (K + 1 - n) = (best, found) ∧ Mem w wr [(w.heap.size, .cells #[.int .i64 p.mn, .int .i64 p.mx, .int .i64 p.tg, .int .i64 p.tl, .int .i64 p.wi, .int .i64 p.ho] 23)]) (fun i _ => K + 1 - (intOf i).toNat)
    case atStart => exact ⟨N0, hN0, rfl, HR.out, M1.out⟩
    case round =>
      obtain ⟨n, hn, rfl, hlk, hM⟩ := hrel
      by_cases hle : n ≤ K
      · have dn : decide ((n : Int) ≤ (K : Int)) = true := decide_eq_true (by omega)
        have f1 := F1.out (n : Int)
        have f2 := F2.out (n : Int) (by unfold I64; omega)
        rw [HG.out n] at f2
        have HY := Lib.hid (fun h : g n = true => (Chp.look_yes hle h).symm.trans hlk)
        have HN := Lib.hid (fun h : g n = false => (Chp.look_no hle h).symm.trans hlk)
        obtain ⟨Q, eQ⟩ : ∃ Q, Q = Pol.with p 2 (n : Int) := ⟨_, rfl⟩
        simp only [← eQ] at f1 f2
        obtain ⟨gn, egn⟩ : ∃ b, b = g n := ⟨_, rfl⟩
        rw [← egn] at HY HN
        simp only [← egn] at f2
        obtain ⟨mn, mx, tg, tl, wi, ho⟩ := Q
        have G1 := Lib.hid f1
        have G2 := Lib.hid f2
        have M2 := Lib.hid hM
        have K2 := Lib.hid (hM.heap 0 rfl)
        clear f1 f2 hlk hM egn eQ
        go_wp2_with ((with_reducible refine wpList_load_rowAs rfl 23 _ rfl (w.heap.size) ?_ 23 #[.int .i64 p.mn, .int .i64 p.mx, .int .i64 p.tg, .int .i64 p.tl, .int .i64 p.wi, .int .i64 p.ho] (0, 0) _ 6 ?_ Tryz.underlying23 rfl (by kernel_rfl) ?_ ?_); exact rfl; exact K2.out; exact rfl)
        (with_reducible refine (G1.out _).mono ?_)
        rintro e w3 ⟨rfl, hb3⟩
        have M3 := Lib.hid (M2.out.call hb3)
        clear hb3 M2 K2
        go_wp2_with fail
        (with_reducible refine (G2.out _ (HS.out.below M3.out.below)).mono ?_)
        rintro e w4 ⟨u, m, d, C, T, a, b, x, y, c, rfl, hg, hb4⟩
        have M4 := Lib.hid ((M3.out.call hb4).alloc (.cells #[.slice u m d, .int .i64 C, .int .i64 T, .int .i64 a, .int .i64 b, .int .i64 x, .int .i64 y] 28))
        have c6 := M4.out.cell 1 6 rfl rfl
        have HGG := Lib.hid hg
        clear hb4 hg M3
        by_cases hc : c = 0
        · subst hc
          by_cases hy : y = 0
          · subst hy
            have hgn : gn = true := HGG.out.symm
            have hyes := HY.out hgn
            clear HGG HY HN hgn
            obtain ⟨rfl, rfl⟩ : (n : Int) = best ∧ true = found := by simpa using hyes
            go_wp2_with ((with_reducible refine wpList_store_rowAs rfl 28 _ _ rfl (w4.heap.size) #[.slice u m d, .int .i64 C, .int .i64 T, .int .i64 a, .int .i64 b, .int .i64 x, .int .i64 y] ?_ ?_ 28 #[.slice none 0 0, .int .i64 0, .int .i64 0, .int .i64 0, .int .i64 0, .int .i64 0, .int .i64 0] 7 ?_ (by kernel_rfl) rfl rfl (by simp [Value.oneCell']) ?_); exact rfl; exact rfl; exact (heap_alloc_at _ _ _ rfl); (first | rw [row_1_0] | rw [row_2_0] | rw [row_2_1] | rw [row_3_0] | rw [row_3_1] | rw [row_3_2] | rw [row_4_0] | rw [row_4_1] | rw [row_4_2] | rw [row_4_3] | rw [row_5_0] | rw [row_5_1] | rw [row_5_2] | rw [row_5_3] | rw [row_5_4] | rw [row_6_0] | rw [row_6_1] | rw [row_6_2] | rw [row_6_3] | rw [row_6_4] | rw [row_6_5] | simp only [setRow_alloc_past, setRow_alloc_at, World.size_alloc, Nat.add_assoc, Nat.reduceAdd, Nat.lt_add_right_iff_pos, Nat.add_lt_add_iff_left, Nat.reduceLT, Nat.zero_lt_succ, Nat.lt_add_one]))
            exact bodyPost_ret (results_tmp2 rfl _ _ _) rfl ⟨rfl, M4.out.below⟩
          · have hgn : gn = false := by rw [← HGG.out, decide_eq_false hy]; rfl
            have by0 : (y == 0) = false := beq_eq_false_iff_ne.2 hy
            have hno := Lib.hid (HN.out hgn)
            clear HGG HY HN hgn hy
            go_wp2_with ((with_reducible refine wpList_store_rowAs rfl 28 _ _ rfl (w4.heap.size) #[.slice u m d, .int .i64 C, .int .i64 T, .int .i64 a, .int .i64 b, .int .i64 x, .int .i64 y] ?_ ?_ 28 #[.slice none 0 0, .int .i64 0, .int .i64 0, .int .i64 0, .int .i64 0, .int .i64 0, .int .i64 0] 7 ?_ (by kernel_rfl) rfl rfl (by simp [Value.oneCell']) ?_); exact rfl; exact rfl; exact (heap_alloc_at _ _ _ rfl); (first | rw [row_1_0] | rw [row_2_0] | rw [row_2_1] | rw [row_3_0] | rw [row_3_1] | rw [row_3_2] | rw [row_4_0] | rw [row_4_1] | rw [row_4_2] | rw [row_4_3] | rw [row_5_0] | rw [row_5_1] | rw [row_5_2] | rw [row_5_3] | rw [row_5_4] | rw [row_6_0] | rw [row_6_1] | rw [row_6_2] | rw [row_6_3] | rw [row_6_4] | rw [row_6_5] | simp only [setRow_alloc_past, setRow_alloc_at, World.size_alloc, Nat.add_assoc, Nat.reduceAdd, Nat.lt_add_right_iff_pos, Nat.add_lt_add_iff_left, Nat.reduceLT, Nat.zero_lt_succ, Nat.lt_add_one]))
            exact ⟨⟨n + 1, by omega, by go_num, hno.out, M4.out.init⟩, by simp [intOf]; omega⟩
        · have hgn : gn = false := by rw [← HGG.out, decide_eq_false hc]; rfl
          have bc0 : (c == 0) = false := beq_eq_false_iff_ne.2 hc
          have hno := Lib.hid (HN.out hgn)
          clear HGG HY HN hgn hc
          go_wp2_with ((with_reducible refine wpList_store_rowAs rfl 28 _ _ rfl (w4.heap.size) #[.slice u m d, .int .i64 C, .int .i64 T, .int .i64 a, .int .i64 b, .int .i64 x, .int .i64 y] ?_ ?_ 28 #[.slice none 0 0, .int .i64 0, .int .i64 0, .int .i64 0, .int .i64 0, .int .i64 0, .int .i64 0] 7 ?_ (by kernel_rfl) rfl rfl (by simp [Value.oneCell']) ?_); exact rfl; exact rfl; exact (heap_alloc_at _ _ _ rfl); (first | rw [row_1_0] | rw [row_2_0] | rw [row_2_1] | rw [row_3_0] | rw [row_3_1] | rw [row_3_2] | rw [row_4_0] | rw [row_4_1] | rw [row_4_2] | rw [row_4_3] | rw [row_5_0] | rw [row_5_1] | rw [row_5_2] | rw [row_5_3] | rw [row_5_4] | rw [row_6_0] | rw [row_6_1] | rw [row_6_2] | rw [row_6_3] | rw [row_6_4] | rw [row_6_5] | simp only [setRow_alloc_past, setRow_alloc_at, World.size_alloc, Nat.add_assoc, Nat.reduceAdd, Nat.lt_add_right_iff_pos, Nat.add_lt_add_iff_left, Nat.reduceLT, Nat.zero_lt_succ, Nat.lt_add_one]))
          exact ⟨⟨n + 1, by omega, by go_num, hno.out, M4.out.init⟩, by simp [intOf]; omega⟩
      · have dn : decide ((n : Int) ≤ (K : Int)) = false := decide_eq_false (by omega)
        have hend := (Chp.look_end hle).symm.trans hlk
        obtain ⟨rfl, rfl⟩ : (0 : Int) = best ∧ false = found := by simpa using hend
        have M2 := Lib.hid hM
        clear hM hlk hend
        go_wp2
        exact bodyPost_ret (results_tmp2 rfl _ _ _) rfl ⟨rfl, M2.out.below⟩
end Go.Proofs.YtildjnibdappnaaGreat
