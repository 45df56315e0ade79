/- Layer 52: the sample that is awaited, and the samples with it: the law, walked. -/
import Derived.Test.YtcanbagnehdbiaaJTrend3
import Derived.Test.YtcanbagnehdbiaaJLaws52
namespace Go.Proofs.Ytcanbagnehdbiaa
open Go.ChangeShapes Go.WideShapes Go.ChangeAt Go.RowKit

theorem ser_listN {w : World} {B s : Nat} {v : Value} {room n : Nat} {L : List Samp} (h : SerAt w B s v room L) (hn : L.length = n) :
    Calls Try.prog 47 #[.pointer (some ⟨s, 0, none⟩)] w fun e w' => ∃ p c, e = .returned (.slice p n c) ∧ Samps w' p L ∧ Below w.heap.size w w' := by
  subst hn
  exact (ser_list h).mono fun e w' ⟨p, c, h1, _, h2, h3⟩ => ⟨p, c, h1, h2, h3⟩

set_option maxHeartbeats 4000000 in
set_option maxRecDepth 100000 in
theorem trend_with (p : Option Addr) (cap : Nat) (l : List Samp) (hl : ∀ a ∈ l, a.In) (hb : l.length ≤ 100000) (ticks : Int) (ht : I64 ticks) (w : World) (hs : Samps w p l) :
    Calls Try.prog 60 #[.slice p l.length cap, .int .i64 ticks] w fun e w' => ∃ q c, e = .returned (.slice q (Trd.wth (Ser.of 256 l l.length) ticks).length c) ∧ Samps w' q (Trd.wth (Ser.of 256 l l.length) ticks) ∧ Below w.heap.size w w' := by
  have g1 := fun W : World => fun h : Samps W p l => trend_samples p cap l hb W h
  have g2 := fun W : World => fun h : Samps W p l => trend_ahead p cap l hl hb ticks ht W h
  have hgood := Ser.of_good 256 l hl l.length (Nat.le_refl _)
  obtain ⟨L, eL⟩ : ∃ L, L = Ser.of 256 l l.length := ⟨_, rfl⟩
  rw [← eL] at hgood ⊢
  simp only [← eL] at g1 g2
  have hcode := Trd.code hgood ticks
  have hw : Trd.wth L ticks = if Trd.has L ticks = true then Ser.put L 256 (Trd.ahead L ticks) else L := rfl
  obtain ⟨x, ex⟩ : ∃ x, x = Trd.ahead L ticks := ⟨_, rfl⟩
  rw [← ex] at hcode hw
  simp only [← ex] at g2
  obtain ⟨hh, eh⟩ : ∃ x, x = Trd.has L ticks := ⟨_, rfl⟩
  rw [← eh] at hcode hw
  simp only [← eh] at g2
  obtain ⟨R, eR⟩ : ∃ x, x = Trd.wth L ticks := ⟨_, rfl⟩
  rw [← eR] at hw ⊢
  obtain ⟨n, en⟩ : ∃ n, n = l.length := ⟨_, rfl⟩
  rw [← en] at hb ⊢
  simp only [← en] at g1 g2
  obtain ⟨xt, xv⟩ := x
  simp only at g2
  have G1 := Lib.hid g1
  have G2 := Lib.hid g2
  have HS := Lib.hid hs
  obtain ⟨m, em⟩ : ∃ m, m = R.length := ⟨_, rfl⟩
  have EM := Lib.hid em
  rw [← em]
  clear g1 g2 hs en eR eh ex eL hgood hl em
  cases hh with
  | false =>
    have hR : R = L := hw.trans (if_neg (by simp))
    subst hR
    clear hw hcode
    go_enter Try.func60, Try.ntmps60
    go_wp2_with fail
    (with_reducible refine (G1.out _ HS.out).mono ?_)
    rintro e w1 ⟨s, v, rfl, hser, hb1⟩
    have S1 := Lib.hid hser
    have M1 := Lib.hid ((Mem.start w).call hb1)
    clear hser hb1
    go_wp2_with fail
    (with_reducible refine (G2.out _ (HS.out.below M1.out.below)).mono ?_)
    rintro e w2 ⟨rfl, hb2⟩
    have M2 := Lib.hid ((M1.out.call hb2).alloc (.cells #[.int .i64 xt, .int .i64 xv] 73))
    have S2 := Lib.hid ((S1.out.below hb2).below (below1 w2 (.cells #[.int .i64 xt, .int .i64 xv] 73)))
    have P := Lib.hid (ser_listN S2.out EM.out.symm)
    clear hb2 M1 S1
    go_wp2_with fail
    (with_reducible refine P.out.mono ?_)
    rintro e w3 ⟨q, c, rfl, hsa, hb3⟩
    have M3 := Lib.hid (M2.out.call hb3)
    have SA := Lib.hid hsa
    clear hb3 hsa P
    go_wp2
    go_ret
    exact ⟨q, c, rfl, SA.out, M3.out.below⟩
  | true =>
    have hR : R = Ser.put L 256 ⟨xt, xv⟩ := hw.trans (if_pos rfl)
    have hc := hcode rfl
    have HR := Lib.hid hR
    have HC := Lib.hid hc
    clear hw hcode hc hR
    go_enter Try.func60, Try.ntmps60
    go_wp2_with fail
    (with_reducible refine (G1.out _ HS.out).mono ?_)
    rintro e w1 ⟨s, v, rfl, hser, hb1⟩
    have S1 := Lib.hid hser
    have M1 := Lib.hid ((Mem.start w).call hb1)
    clear hser hb1
    go_wp2_with fail
    (with_reducible refine (G2.out _ (HS.out.below M1.out.below)).mono ?_)
    rintro e w2 ⟨rfl, hb2⟩
    have M2 := Lib.hid ((M1.out.call hb2).alloc (.cells #[.int .i64 xt, .int .i64 xv] 73))
    have S2 := Lib.hid ((S1.out.below hb2).below (below1 w2 (.cells #[.int .i64 xt, .int .i64 xv] 73)))
    have c0 := M2.out.cell 0 0 rfl rfl
    have c1 := M2.out.cell 0 1 rfl rfl
    have P := Lib.hid (ser_put S2.out (by have := M2.out.below.size; exact this) ⟨xt, xv⟩ HC.out)
    rw [← HR.out] at P
    clear hb2 M1 S1
    go_wp2_with fail
    (with_reducible refine P.out.mono ?_)
    rintro e w3 ⟨rfl, v3, hs3, ht3, _⟩
    have LOW := Lib.hid (And.intro S2.out.low S2.out.owns.lt)
    have B3 : Hid (Below w.heap.size w w3) := M2.out.below.trans (ht3.below (fun k' h => by
      rcases h with rfl | h
      · exact LOW.out.1
      · exact (LOW.out.2 k' h).1) M2.out.below.size)
    have P3 := Lib.hid (ser_listN hs3 EM.out.symm)
    clear hs3 ht3 P M2 S2 c0 c1
    go_wp2_with fail
    (with_reducible refine P3.out.mono ?_)
    rintro e w4 ⟨q, c, rfl, hsa, hb4⟩
    have B4 := Lib.hid (B3.out.trans (hb4.mono B3.out.size))
    have SA := Lib.hid hsa
    clear hb4 hsa P3
    go_wp2
    go_ret
    exact ⟨q, c, rfl, SA.out, B4.out⟩

set_option maxHeartbeats 4000000 in
set_option maxRecDepth 100000 in
theorem trendAhead_walk (p : Option Addr) (cap : Nat) (l : List Samp) (hl : ∀ a ∈ l, a.In) (hb : l.length ≤ 9223372036854775807) (ticks : Int) (ht : I64 ticks) (w : World) (hs : Samps w p l) :
    Calls Try.prog 13 #[.slice p l.length cap, .int .i64 ticks] w fun e w' => e = .returned (.bool true) ∧ Below w.heap.size w w' := by
  obtain ⟨n, en⟩ : ∃ n, n = l.length := ⟨_, rfl⟩
  by_cases h60 : 60 < n
  · have d1 : decide ((60 : Int) < n) = true := decide_eq_true (by omega)
    rw [← en] at hb ⊢
    clear en hs hl
    go_enter Try.func13, Try.ntmps13
    go_wp2_with fail
    (with_reducible refine (awake52 _).mono ?_)
    rintro e w1 ⟨rfl, hb1⟩
    have M1 := Lib.hid ((Mem.start w).call hb1)
    clear hb1
    go_wp2
    go_ret
    exact ⟨rfl, M1.out.below⟩
  have d1 : decide ((60 : Int) < n) = false := decide_eq_false (by omega)
  have g1 := fun W : World => fun h : Samps W p l => trend_ahead p cap l hl (by omega) ticks ht W h
  have g2 := fun W : World => fun h : Samps W p l => ref52_ahead p cap l hl (by omega) ticks ht W h
  have g3 := fun W : World => fun h : Samps W p l => show Calls Try.prog 48 #[.int .i64 256, .slice p l.length cap] W _ from ref08_of p cap l (by omega) 256 (by omega) (by omega) W h
  have g4 := fun W : World => fun h : Samps W p l => trend_with p cap l hl (by omega) ticks ht W h
  have hgood := Ser.of_good 256 l hl l.length (Nat.le_refl _)
  have hsort := Ser.of_sorted 256 l l.length (Nat.le_refl _)
  have hlen := Ser.of_length (room := 256) (by omega) l l.length (Nat.le_refl _)
  obtain ⟨L, eL⟩ : ∃ L, L = Ser.of 256 l l.length := ⟨_, rfl⟩
  rw [← eL] at hgood hsort hlen
  simp only [← eL] at g1 g2 g3 g4
  have hw : Trd.wth L ticks = if Trd.has L ticks = true then Ser.put L 256 (Trd.ahead L ticks) else L := rfl
  have hwl : (Trd.wth L ticks).length ≤ 256 := by
    rw [hw]
    split
    · exact Ser.put_length (by omega) hlen _
    · exact hlen
  obtain ⟨x, ex⟩ : ∃ x, x = Trd.ahead L ticks := ⟨_, rfl⟩
  rw [← ex] at hw
  simp only [← ex] at g1 g2
  have g5 := fun (q : Option Addr) (c : Nat) (W : World) (h : Samps W q L) => show Calls Try.prog 43 #[.slice q L.length c, .int .i64 256, .agg #[.int .i64 x.tick, .int .i64 x.val]] W _ from ref08_put q L.length c L rfl (by omega) hsort 256 x W h
  have heq := fun W : World => samp_equal_yes x W
  obtain ⟨hh, eh⟩ : ∃ x, x = Trd.has L ticks := ⟨_, rfl⟩
  rw [← eh] at hw
  simp only [← eh] at g1 g2
  obtain ⟨R, eR⟩ : ∃ x, x = Trd.wth L ticks := ⟨_, rfl⟩
  rw [← eR] at hw hwl
  simp only [← eR] at g4
  rw [← en] at hb
  simp only [← en] at g1 g2 g3 g4 ⊢
  obtain ⟨xt, xv⟩ := x
  simp only at g1 g2 g5 heq
  have g6 := fun (q1 q2 : Option Addr) (c d : Nat) (W : World) (h1 : Samps W q1 R) (h2 : Samps W q2 R) => ref08_alike q1 q2 R.length c d R rfl (by omega) W h1 h2
  obtain ⟨m, em⟩ : ∃ m, m = R.length := ⟨_, rfl⟩
  simp only [← em] at g4 g6
  have G1 := Lib.hid g1
  have G2 := Lib.hid g2
  have G4 := Lib.hid g4
  have G6 := Lib.hid g6
  have HQ := Lib.hid heq
  have HS := Lib.hid hs
  clear g1 g2 g4 g6 hs en eR eh ex eL hgood hl hsort heq hwl
  cases hh with
  | false =>
    have hR : R = L := hw.trans (if_neg (by simp))
    subst hR
    simp only [← em] at g3
    clear hw g5
    have G3 := Lib.hid g3
    clear g3 em
    go_enter Try.func13, Try.ntmps13
    go_wp2_with fail
    (with_reducible refine (awake52 _).mono ?_)
    rintro e w1 ⟨rfl, hb1⟩
    have M1 := Lib.hid ((Mem.start w).call hb1)
    clear hb1
    go_wp2_with fail
    (with_reducible refine (G1.out _ (HS.out.below M1.out.below)).mono ?_)
    rintro e w2 ⟨rfl, hb2⟩
    have M2 := Lib.hid ((M1.out.call hb2).alloc (.cells #[.int .i64 xt, .int .i64 xv] 73))
    clear hb2 M1 G1
    go_wp2_with fail
    obtain ⟨A, hA⟩ : ∃ Y, w2.heap.size = Y := ⟨_, rfl⟩
    rw [hA] at M2
    try rw [hA]
    (with_reducible refine (G2.out _ (HS.out.below M2.out.below)).mono ?_)
    rintro e w3 ⟨rfl, hb3⟩
    have M3 := Lib.hid ((M2.out.call hb3).alloc (.cells #[.int .i64 xt, .int .i64 xv] 73))
    clear hb3 M2 G2 hA
    go_wp2_with fail
    obtain ⟨B, hB⟩ : ∃ Y, w3.heap.size = Y := ⟨_, rfl⟩
    rw [hB] at M3
    try rw [hB]
    (with_reducible refine (G3.out _ (HS.out.below M3.out.below)).mono ?_)
    rintro e w4 ⟨q4, c4, rfl, _, hs4, _, hb4⟩
    have M4 := Lib.hid (M3.out.call hb4)
    have SA4 := Lib.hid hs4
    have K1 := Lib.hid (M4.out.heap 1 rfl)
    clear hb4 hs4 M3 G3 hB
    have KA := Lib.hid (M4.out.heap 0 rfl)
    have KB := Lib.hid (M4.out.heap 1 rfl)
    clear K1
    go_wp2_with (first | ((with_reducible refine wpList_load_rowAs rfl 73 _ rfl (A) ?_ 73 #[.int .i64 xt, .int .i64 xv] (0, 0) _ 2 ?_ Try.underlying73 rfl (by kernel_rfl) ?_ ?_); exact rfl; exact KA.out; exact rfl) | ((with_reducible refine wpList_load_rowAs rfl 73 _ rfl (B) ?_ 73 #[.int .i64 xt, .int .i64 xv] (0, 0) _ 2 ?_ Try.underlying73 rfl (by kernel_rfl) ?_ ?_); exact rfl; exact KB.out; exact rfl) | (with_reducible refine wpList_eql_agg rfl _ _ _ _ rfl _ _ rfl rfl true (by kernel_rfl) (HQ.out _) ?_))
    (with_reducible refine (G4.out _ (HS.out.below M4.out.below)).mono ?_)
    rintro e w6 ⟨q6, c6, rfl, hs6, hb6⟩
    have M6 := Lib.hid (M4.out.call hb6)
    have S6 := Lib.hid (SA4.out.below hb6)
    have T6 := Lib.hid hs6
    clear hs6 hb6 M4 SA4 KA KB G4
    go_wp2_with fail
    (with_reducible refine (G6.out q6 q4 c6 c4 _ T6.out S6.out).mono ?_)
    rintro e w7 ⟨rfl, hb7⟩
    have M7 := Lib.hid (M6.out.call hb7)
    clear hb7 M6 G6
    go_wp2
    go_ret
    exact ⟨rfl, M7.out.below⟩
  | true =>
    have hR : R = Ser.put L 256 ⟨xt, xv⟩ := hw.trans (if_pos rfl)
    simp only [← hR, ← em] at g5
    obtain ⟨mL, emL⟩ : ∃ m, m = L.length := ⟨_, rfl⟩
    simp only [← emL] at g3 g5
    have hmL : mL ≤ 256 := by omega
    have G3 := Lib.hid g3
    have G5 := Lib.hid g5
    clear hw g5 g3 hR hlen emL em
    go_enter Try.func13, Try.ntmps13
    go_wp2_with fail
    (with_reducible refine (awake52 _).mono ?_)
    rintro e w1 ⟨rfl, hb1⟩
    have M1 := Lib.hid ((Mem.start w).call hb1)
    clear hb1
    go_wp2_with fail
    (with_reducible refine (G1.out _ (HS.out.below M1.out.below)).mono ?_)
    rintro e w2 ⟨rfl, hb2⟩
    have M2 := Lib.hid ((M1.out.call hb2).alloc (.cells #[.int .i64 xt, .int .i64 xv] 73))
    clear hb2 M1 G1
    go_wp2_with fail
    obtain ⟨A, hA⟩ : ∃ Y, w2.heap.size = Y := ⟨_, rfl⟩
    rw [hA] at M2
    try rw [hA]
    (with_reducible refine (G2.out _ (HS.out.below M2.out.below)).mono ?_)
    rintro e w3 ⟨rfl, hb3⟩
    have M3 := Lib.hid ((M2.out.call hb3).alloc (.cells #[.int .i64 xt, .int .i64 xv] 73))
    clear hb3 M2 G2 hA
    go_wp2_with fail
    obtain ⟨B, hB⟩ : ∃ Y, w3.heap.size = Y := ⟨_, rfl⟩
    rw [hB] at M3
    try rw [hB]
    (with_reducible refine (G3.out _ (HS.out.below M3.out.below)).mono ?_)
    rintro e w4 ⟨q4, c4, rfl, _, hs4, _, hb4⟩
    have M4 := Lib.hid (M3.out.call hb4)
    have SA4 := Lib.hid hs4
    have K1 := Lib.hid (M4.out.heap 1 rfl)
    clear hb4 hs4 M3 G3 hB
    go_wp2_with ((with_reducible refine wpList_load_rowAs rfl 73 _ rfl (B) ?_ 73 #[.int .i64 xt, .int .i64 xv] (0, 0) _ 2 ?_ Try.underlying73 rfl (by kernel_rfl) ?_ ?_); exact rfl; exact K1.out; exact rfl)
    (with_reducible refine (G5.out q4 c4 _ SA4.out).mono ?_)
    rintro e w5 ⟨q5, c5, rfl, _, hs5, _, hb5⟩
    have M5 := Lib.hid (M4.out.call hb5)
    have SA5 := Lib.hid hs5
    clear hb5 hs5 M4 G5 SA4 K1
    have KA := Lib.hid (M5.out.heap 0 rfl)
    have KB := Lib.hid (M5.out.heap 1 rfl)
    go_wp2_with (first | ((with_reducible refine wpList_load_rowAs rfl 73 _ rfl (A) ?_ 73 #[.int .i64 xt, .int .i64 xv] (0, 0) _ 2 ?_ Try.underlying73 rfl (by kernel_rfl) ?_ ?_); exact rfl; exact KA.out; exact rfl) | ((with_reducible refine wpList_load_rowAs rfl 73 _ rfl (B) ?_ 73 #[.int .i64 xt, .int .i64 xv] (0, 0) _ 2 ?_ Try.underlying73 rfl (by kernel_rfl) ?_ ?_); exact rfl; exact KB.out; exact rfl) | (with_reducible refine wpList_eql_agg rfl _ _ _ _ rfl _ _ rfl rfl true (by kernel_rfl) (HQ.out _) ?_))
    (with_reducible refine (G4.out _ (HS.out.below M5.out.below)).mono ?_)
    rintro e w6 ⟨q6, c6, rfl, hs6, hb6⟩
    have M6 := Lib.hid (M5.out.call hb6)
    have S6 := Lib.hid (SA5.out.below hb6)
    have T6 := Lib.hid hs6
    clear hs6 hb6 M5 SA5 KA KB G4
    go_wp2_with fail
    (with_reducible refine (G6.out q6 q5 c6 c5 _ T6.out S6.out).mono ?_)
    rintro e w7 ⟨rfl, hb7⟩
    have M7 := Lib.hid (M6.out.call hb7)
    clear hb7 M6 G6
    go_wp2
    go_ret
    exact ⟨rfl, M7.out.below⟩
end Go.Proofs.Ytcanbagnehdbiaa
