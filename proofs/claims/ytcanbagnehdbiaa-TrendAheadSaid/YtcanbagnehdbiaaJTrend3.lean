/- Layer 52: the sample that is awaited, and the samples with it. -/
import Derived.Test.YtcanbagnehdbiaaJTrend2
namespace Go.Proofs.Ytcanbagnehdbiaa
open Go.ChangeShapes Go.WideShapes Go.ChangeAt Go.RowKit

def Trd.last (L : List Samp) : Samp := L[L.length - 1]?.getD default
def Trd.next (L : List Samp) (ticks : Int) : Int := Sat.clamp ((Trd.last L).tick + ticks)
def Trd.has (L : List Samp) (ticks : Int) : Bool := decide (0 < L.length) && decide (0 ≤ ticks)
def Trd.ahead (L : List Samp) (ticks : Int) : Samp := if Trd.has L ticks = true then ⟨Trd.next L ticks, (Trd.line L).at (Trd.next L ticks)⟩ else ⟨0, 0⟩
def Trd.wth (L : List Samp) (ticks : Int) : List Samp := if Trd.has L ticks = true then Ser.put L 256 (Trd.ahead L ticks) else L
theorem Lin.at_I64 (x : Lin) (t : Int) : 0 ≤ x.at t ∧ x.at t ≤ 9223372036854775807 := by
  unfold Lin.at
  split
  · omega
  · have := Sat.clamp_I64 (x.val + Sat.floor (Sat.clamp (Sat.clamp (t - x.tick) * x.rise)) x.run)
    unfold I64 at this
    omega
theorem Trd.code {L : List Samp} (hg : ∀ a ∈ L, a.Good) (ticks : Int) (h : Trd.has L ticks = true) : Ser.code (Trd.ahead L ticks) = 0 := by
  have e : Trd.ahead L ticks = ⟨Trd.next L ticks, (Trd.line L).at (Trd.next L ticks)⟩ := if_pos h
  unfold Trd.has at h
  simp only [Bool.and_eq_true, decide_eq_true_eq] at h
  have hl := hg (Trd.last L) (by unfold Trd.last; rw [List.getElem?_eq_getElem (by omega)]; exact List.getElem_mem _)
  have h1 : 0 ≤ Trd.next L ticks := by
    have := hl.2.1
    unfold Trd.next Sat.clamp
    split
    · omega
    · split <;> omega
  have h2 := Lin.at_I64 (Trd.line L) (Trd.next L ticks)
  rw [e]
  unfold Ser.code
  rw [if_neg (by show ¬ Trd.next L ticks < 0; omega), if_neg (by show ¬ (Trd.line L).at (Trd.next L ticks) < 0; omega)]

set_option maxHeartbeats 4000000 in
set_option maxRecDepth 100000 in
theorem trend_ahead (p : Option Addr) (cap : Nat) (l : List Samp) (hl : ∀ a ∈ l, a.In) (hb : l.length ≤ 100000) (ticks : Int) (ht : I64 ticks) (w : World) (hs : Samps w p l) :
    Calls Try.prog 58 #[.slice p l.length cap, .int .i64 ticks] w fun e w' => e = .returned (.tuple #[.agg #[.int .i64 (Trd.ahead (Ser.of 256 l l.length) ticks).tick, .int .i64 (Trd.ahead (Ser.of 256 l l.length) ticks).val], .bool (Trd.has (Ser.of 256 l l.length) ticks)]) ∧ Below w.heap.size w w' := by
  have g1 := fun W : World => fun h : Samps W p l => trend_samples p cap l hb W h
  have g2 := fun W : World => fun h : Samps W p l => trend_of p cap l hl hb W h
  have hgood := Ser.of_good 256 l hl l.length (Nat.le_refl _)
  have hsort := Ser.of_sorted 256 l l.length (Nat.le_refl _)
  have hlen := Ser.of_length (room := 256) (by omega) l l.length (Nat.le_refl _)
  have hlin := (Trd.line_good hsort hgood).1
  obtain ⟨L, eL⟩ : ∃ L, L = Ser.of 256 l l.length := ⟨_, rfl⟩
  rw [← eL] at hgood hsort hlen hlin ⊢
  simp only [← eL] at g1 g2
  have hno : Trd.has L ticks = false → (Trd.ahead L ticks).tick = 0 ∧ (Trd.ahead L ticks).val = 0 := fun h => by unfold Trd.ahead; rw [if_neg (by rw [h]; simp)]; exact ⟨rfl, rfl⟩
  have hyes : Trd.has L ticks = true → (Trd.ahead L ticks).tick = Trd.next L ticks ∧ (Trd.ahead L ticks).val = (Trd.line L).at (Trd.next L ticks) := fun h => by unfold Trd.ahead; rw [if_pos h]; exact ⟨rfl, rfl⟩
  have hdef : Trd.has L ticks = (decide (0 < L.length) && decide (0 ≤ ticks)) := rfl
  have M0 : Hid (Mem w (w.alloc (.cells #[.int .i64 0, .int .i64 0] 73)) [(w.heap.size, .cells #[.int .i64 0, .int .i64 0] 73)]) := (Mem.start w).alloc _
  have HS := Lib.hid hs
  obtain ⟨n, en⟩ : ∃ n, n = l.length := ⟨_, rfl⟩
  rw [← en] at hb ⊢
  simp only [← en] at g1 g2
  by_cases e0 : L.length = 0
  · have hz := hdef.trans (by rw [decide_eq_false (by omega : ¬ 0 < L.length), Bool.false_and])
    obtain ⟨z1, z2⟩ := hno hz
    rw [hz, z1, z2]
    have hdl : decide (0 < L.length) = false := decide_eq_false (by omega)
    have G1 := Lib.hid g1
    clear g1 g2 hno hyes hdef hz z1 z2 hlin hgood hsort en eL hs
    go_enter Try.func58, Try.ntmps58
    go_wp2_with fail
    (with_reducible refine (G1.out _ (HS.out.below M0.out.below)).mono ?_)
    rintro e w1 ⟨s, v, rfl, hser, hb1⟩
    have M1 := Lib.hid (M0.out.call hb1)
    have P := Lib.hid (ser_last_empty hser e0)
    clear hser hb1 M0 G1
    go_wp2_with fail
    (with_reducible refine P.out.mono ?_)
    rintro e w2 ⟨rfl, hb2⟩
    have M2 := Lib.hid ((M1.out.call hb2).alloc (.cells #[.int .i64 0, .int .i64 0] 73))
    have K0 := Lib.hid (M2.out.heap 0 rfl)
    clear hb2 M1 P
    go_wp2_with ((with_reducible refine wpList_store_rowAs rfl 73 _ _ rfl (w.heap.size) #[.int .i64 0, .int .i64 0] ?_ ?_ 73 #[.int .i64 0, .int .i64 0] 2 ?_ (by kernel_rfl) rfl rfl (by simp [Value.oneCell']) ?_); exact rfl; exact rfl; exact K0.out)
    have MF := Lib.hid (M2.out.setRow 0 (cs := #[.int .i64 0, .int .i64 0]) rfl)
    exact bodyPost_ret (results_row_tmp rfl _ _ w.heap.size 73 #[.int .i64 0, .int .i64 0] (0, 0) _ 2 _ rfl rfl (MF.out.heap 0 rfl) Try.underlying73 rfl sampSize2 rfl) rfl ⟨rfl, MF.out.below⟩
  have hdl : decide (0 < L.length) = true := decide_eq_true (by omega)
  obtain ⟨⟨y0, y1⟩, ey⟩ : ∃ y, y = Trd.last L := ⟨_, rfl⟩
  have hy : L[L.length - 1]? = some ⟨y0, y1⟩ := by
    rw [List.getElem?_eq_getElem (by omega)]
    rw [ey]; unfold Trd.last
    rw [List.getElem?_eq_getElem (by omega)]; rfl
  have hyI : I64 y0 := (hgood ⟨y0, y1⟩ (List.mem_of_getElem? hy)).1.1
  have hlinv := hlin
  have f5 := fun W : World => trend_at (Trd.line L) hlin (Trd.next L ticks) (Sat.clamp_I64 _) W
  have f6 := fun W : World => sat_add y0 ticks hyI ht W
  have hnx : Sat.clamp (y0 + ticks) = Trd.next L ticks := by unfold Trd.next; rw [← ey]
  simp only [hnx] at f6
  obtain ⟨u, eu⟩ : ∃ u, u = (Trd.line L).at (Trd.next L ticks) := ⟨_, rfl⟩
  rw [← eu] at hyes
  simp only [← eu] at f5
  obtain ⟨nx, enx⟩ : ∃ u, u = Trd.next L ticks := ⟨_, rfl⟩
  rw [← enx] at hyes
  simp only [← enx] at f5 f6
  obtain ⟨ln, eln⟩ : ∃ ln, ln = Trd.line L := ⟨_, rfl⟩
  simp only [← eln] at f5 g2
  obtain ⟨x0, x1, x2, x3⟩ := ln
  rw [hdl] at g2
  have G2 : Hid (∀ W : World, Samps W p l → Calls Try.prog 53 #[.slice p n cap] W fun e w' => e = .returned (.tuple #[.agg #[.int .i64 x0, .int .i64 x1, .int .i64 x2, .int .i64 x3], .bool true]) ∧ Below W.heap.size W w') := g2
  have F5 : Hid (∀ W : World, Calls Try.prog 55 #[.agg #[.int .i64 x0, .int .i64 x1, .int .i64 x2, .int .i64 x3], .int .i64 nx] W fun e w' => e = .returned (.int .i64 u) ∧ Below W.heap.size W w') := f5
  have F6 := Lib.hid f6
  have HY := Lib.hid hy
  have G1 := Lib.hid g1
  have hl256 : L.length ≤ 256 := hlen
  have hl0 : 0 < L.length := by omega
  by_cases h0 : ticks < 0
  · have hz := hdef.trans (by rw [decide_eq_false (by omega : ¬ 0 ≤ ticks), Bool.and_false])
    obtain ⟨z1, z2⟩ := hno hz
    rw [hz, z1, z2]
    clear hno hyes hdef g1 g2 f5 f6 eu enx eln hyI hy ey hlin hlinv hgood hsort en eL hs e0 hz z1 z2 hnx
    go_enter Try.func58, Try.ntmps58
    go_wp2_with fail
    (with_reducible refine (G1.out _ (HS.out.below M0.out.below)).mono ?_)
    rintro e w1 ⟨s, v, rfl, hser, hb1⟩
    have M1 := Lib.hid (M0.out.call hb1)
    have P := Lib.hid (ser_last hser hl0 ⟨y0, y1⟩ HY.out)
    clear hser hb1 M0 G1
    go_wp2_with fail
    (with_reducible refine P.out.mono ?_)
    rintro e w2 ⟨rfl, hb2⟩
    have M2 := Lib.hid ((M1.out.call hb2).alloc (.cells #[.int .i64 y0, .int .i64 y1] 73))
    obtain ⟨X, hX⟩ : ∃ X, w2.heap.size = X := ⟨_, rfl⟩
    rw [hX] at M2
    have K0 := Lib.hid (M2.out.heap 0 rfl)
    clear hb2 M1 P
    go_wp2_with ((with_reducible refine wpList_store_rowAs rfl 73 _ _ rfl (w.heap.size) #[.int .i64 0, .int .i64 0] ?_ ?_ 73 #[.int .i64 0, .int .i64 0] 2 ?_ (by kernel_rfl) rfl rfl (by simp [Value.oneCell']) ?_); exact rfl; exact rfl; exact K0.out)
    have MF := Lib.hid (M2.out.setRow 0 (cs := #[.int .i64 0, .int .i64 0]) rfl)
    exact bodyPost_ret (results_row_tmp rfl _ _ w.heap.size 73 #[.int .i64 0, .int .i64 0] (0, 0) _ 2 _ rfl rfl (MF.out.heap 0 rfl) Try.underlying73 rfl sampSize2 rfl) rfl ⟨rfl, MF.out.below⟩
  have hz := hdef.trans (by rw [hdl, decide_eq_true (by omega : 0 ≤ ticks), Bool.true_and])
  obtain ⟨z1, z2⟩ := hyes hz
  rw [hz, z1, z2]
  clear hno hyes hdef g1 g2 f5 f6 eu enx eln hyI hy ey hlin hlinv hgood hsort en eL hs e0 hz z1 z2 hnx hdl
  go_enter Try.func58, Try.ntmps58
  go_wp2_with fail
  (with_reducible refine (G1.out _ (HS.out.below M0.out.below)).mono ?_)
  rintro e w1 ⟨s, v, rfl, hser, hb1⟩
  have M1 := Lib.hid (M0.out.call hb1)
  have P := Lib.hid (ser_last hser hl0 ⟨y0, y1⟩ HY.out)
  clear hser hb1 M0 G1
  go_wp2_with fail
  (with_reducible refine P.out.mono ?_)
  rintro e w2 ⟨rfl, hb2⟩
  have M2 := Lib.hid ((M1.out.call hb2).alloc (.cells #[.int .i64 y0, .int .i64 y1] 73))
  obtain ⟨X, hX⟩ : ∃ X, w2.heap.size = X := ⟨_, rfl⟩
  rw [hX] at M2
  have K0 := Lib.hid (M2.out.heap 0 rfl)
  clear hb2 M1 P
  go_wp2_with fail
  (with_reducible refine (G2.out _ (HS.out.below M2.out.below)).mono ?_)
  rintro e w3 ⟨rfl, hb3⟩
  have M3 := Lib.hid ((M2.out.call hb3).alloc (.cells #[.int .i64 x0, .int .i64 x1, .int .i64 x2, .int .i64 x3] 95))
  clear hb3 K0 M2 hX
  obtain ⟨Y, hY⟩ : ∃ Y, w3.heap.size = Y := ⟨_, rfl⟩
  rw [hY] at M3
  have K2 := Lib.hid (M3.out.heap 2 rfl)
  have c0 := M3.out.cell 1 0 rfl rfl
  go_wp2_with (first | ((with_reducible refine wpList_load_rowAs rfl 95 _ rfl (Y) ?_ 95 #[.int .i64 x0, .int .i64 x1, .int .i64 x2, .int .i64 x3] (0, 0) _ 4 ?_ Try.underlying95 rfl (by kernel_rfl) ?_ ?_); exact rfl; exact K2.out; exact rfl) | ((with_reducible refine (F6.out _).mono ?_); rintro e w5 ⟨rfl, rfl⟩))
  (with_reducible refine (F5.out _).mono ?_)
  rintro e w4 ⟨rfl, hb4⟩
  have M4 := Lib.hid (M3.out.call hb4)
  have K0 := Lib.hid (M4.out.heap 0 rfl)
  clear hb4 M3 K2 c0
  go_wp2_with ((with_reducible refine wpList_store_rowAs rfl 73 _ _ rfl (w.heap.size) #[.int .i64 nx, .int .i64 u] ?_ ?_ 73 #[.int .i64 0, .int .i64 0] 2 ?_ (by kernel_rfl) rfl rfl (by simp [Value.oneCell']) ?_); exact rfl; exact rfl; exact K0.out)
  have MF := Lib.hid (M4.out.setRow 0 (cs := #[.int .i64 nx, .int .i64 u]) rfl)
  exact bodyPost_ret (results_row_tmp rfl _ _ w.heap.size 73 #[.int .i64 nx, .int .i64 u] (0, 0) _ 2 _ rfl rfl (MF.out.heap 0 rfl) Try.underlying73 rfl sampSize2 rfl) rfl ⟨rfl, MF.out.below⟩

set_option maxHeartbeats 4000000 in
set_option maxRecDepth 100000 in
theorem ref52_ahead (p : Option Addr) (cap : Nat) (l : List Samp) (hl : ∀ a ∈ l, a.In) (hb : l.length ≤ 100000) (ticks : Int) (ht : I64 ticks) (w : World) (hs : Samps w p l) :
    Calls Try.prog 59 #[.slice p l.length cap, .int .i64 ticks] w fun e w' => e = .returned (.tuple #[.agg #[.int .i64 (Trd.ahead (Ser.of 256 l l.length) ticks).tick, .int .i64 (Trd.ahead (Ser.of 256 l l.length) ticks).val], .bool (Trd.has (Ser.of 256 l l.length) ticks)]) ∧ Below w.heap.size w w' := by
  have g1 := fun W : World => fun h : Samps W p l => show Calls Try.prog 48 #[.int .i64 256, .slice p l.length cap] W _ from ref08_of p cap l hb 256 (by omega) (by omega) W h
  have g2 := fun W : World => fun h : Samps W p l => ref52_of p cap l hl hb W h
  have hgood := Ser.of_good 256 l hl l.length (Nat.le_refl _)
  have hsort := Ser.of_sorted 256 l l.length (Nat.le_refl _)
  have hlen := Ser.of_length (room := 256) (by omega) l l.length (Nat.le_refl _)
  have hlin := (Trd.line_good hsort hgood).1
  obtain ⟨L, eL⟩ : ∃ L, L = Ser.of 256 l l.length := ⟨_, rfl⟩
  rw [← eL] at hgood hsort hlen hlin ⊢
  simp only [← eL] at g1 g2
  have hno : Trd.has L ticks = false → (Trd.ahead L ticks).tick = 0 ∧ (Trd.ahead L ticks).val = 0 := fun h => by unfold Trd.ahead; rw [if_neg (by rw [h]; simp)]; exact ⟨rfl, rfl⟩
  have hyes : Trd.has L ticks = true → (Trd.ahead L ticks).tick = Trd.next L ticks ∧ (Trd.ahead L ticks).val = (Trd.line L).at (Trd.next L ticks) := fun h => by unfold Trd.ahead; rw [if_pos h]; exact ⟨rfl, rfl⟩
  have hdef : Trd.has L ticks = (decide (0 < L.length) && decide (0 ≤ ticks)) := rfl
  have M0 : Hid (Mem w (w.alloc (.cells #[.int .i64 0, .int .i64 0] 73)) [(w.heap.size, .cells #[.int .i64 0, .int .i64 0] 73)]) := (Mem.start w).alloc _
  have HS := Lib.hid hs
  obtain ⟨n, en⟩ : ∃ n, n = l.length := ⟨_, rfl⟩
  rw [← en] at hb ⊢
  simp only [← en] at g1 g2
  by_cases e0 : L.length = 0
  · have hz := hdef.trans (by rw [decide_eq_false (by omega : ¬ 0 < L.length), Bool.false_and])
    obtain ⟨z1, z2⟩ := hno hz
    rw [hz, z1, z2]
    have hdl : decide (0 < L.length) = false := decide_eq_false (by omega)
    rw [hdl] at g2
    have hle : Trd.line L = ⟨0, 0, 0, 0⟩ := if_pos e0
    simp only [hle] at g2
    have G2 : Hid (∀ W : World, Samps W p l → Calls Try.prog 54 #[.slice p n cap] W fun e w' => e = .returned (.tuple #[.agg #[.int .i64 0, .int .i64 0, .int .i64 0, .int .i64 0], .bool false]) ∧ Below W.heap.size W w') := g2
    clear g1 g2 hno hyes hdef hz z1 z2 hlin hgood hsort en eL hs hle
    go_enter Try.func59, Try.ntmps59
    go_wp2_with fail
    (with_reducible refine (G2.out _ (HS.out.below M0.out.below)).mono ?_)
    rintro e w2 ⟨rfl, hb2⟩
    have M2 := Lib.hid ((M0.out.call hb2).alloc (.cells #[.int .i64 0, .int .i64 0, .int .i64 0, .int .i64 0] 94))
    have K0 := Lib.hid (M2.out.heap 0 rfl)
    clear hb2 M0 G2
    go_wp2_with ((with_reducible refine wpList_store_rowAs rfl 73 _ _ rfl (w.heap.size) #[.int .i64 0, .int .i64 0] ?_ ?_ 73 #[.int .i64 0, .int .i64 0] 2 ?_ (by kernel_rfl) rfl rfl (by simp [Value.oneCell']) ?_); exact rfl; exact rfl; exact K0.out)
    have MF := Lib.hid (M2.out.setRow 0 (cs := #[.int .i64 0, .int .i64 0]) rfl)
    exact bodyPost_ret (results_row_tmp rfl _ _ w.heap.size 73 #[.int .i64 0, .int .i64 0] (0, 0) _ 2 _ rfl rfl (MF.out.heap 0 rfl) Try.underlying73 rfl sampSize2 rfl) rfl ⟨rfl, MF.out.below⟩
  have hdl : decide (0 < L.length) = true := decide_eq_true (by omega)
  obtain ⟨⟨y0, y1⟩, ey⟩ : ∃ y, y = Trd.last L := ⟨_, rfl⟩
  have hy : L[L.length - 1]? = some ⟨y0, y1⟩ := by
    rw [List.getElem?_eq_getElem (by omega)]
    rw [ey]; unfold Trd.last
    rw [List.getElem?_eq_getElem (by omega)]; rfl
  have hyI : I64 y0 := (hgood ⟨y0, y1⟩ (List.mem_of_getElem? hy)).1.1
  have hlinv := hlin
  have f5 := fun W : World => ref52_at (Trd.line L) hlin (Trd.next L ticks) (Sat.clamp_I64 _) W
  have f6 := fun W : World => ref_add y0 ticks hyI ht W
  have hnx : Sat.clamp (y0 + ticks) = Trd.next L ticks := by unfold Trd.next; rw [← ey]
  simp only [hnx] at f6
  obtain ⟨u, eu⟩ : ∃ u, u = (Trd.line L).at (Trd.next L ticks) := ⟨_, rfl⟩
  rw [← eu] at hyes
  simp only [← eu] at f5
  obtain ⟨nx, enx⟩ : ∃ u, u = Trd.next L ticks := ⟨_, rfl⟩
  rw [← enx] at hyes
  simp only [← enx] at f5 f6
  obtain ⟨ln, eln⟩ : ∃ ln, ln = Trd.line L := ⟨_, rfl⟩
  simp only [← eln] at f5 g2
  obtain ⟨x0, x1, x2, x3⟩ := ln
  rw [hdl] at g2
  have G2 : Hid (∀ W : World, Samps W p l → Calls Try.prog 54 #[.slice p n cap] W fun e w' => e = .returned (.tuple #[.agg #[.int .i64 x0, .int .i64 x1, .int .i64 x2, .int .i64 x3], .bool true]) ∧ Below W.heap.size W w') := g2
  have F5 : Hid (∀ W : World, Calls Try.prog 56 #[.agg #[.int .i64 x0, .int .i64 x1, .int .i64 x2, .int .i64 x3], .int .i64 nx] W fun e w' => e = .returned (.int .i64 u) ∧ Below W.heap.size W w') := f5
  have F6 := Lib.hid f6
  have HY := Lib.hid hy
  have G1 := Lib.hid g1
  obtain ⟨m, em⟩ : ∃ m, L.length = m + 1 := ⟨L.length - 1, by omega⟩
  have HLC : Hid (∀ (W : World) (q : Option Addr), Samps W q L → ∃ b off, q = some ⟨b, off, none⟩ ∧ b < W.heap.size ∧ W.cell? ⟨b, off + m * 2, none⟩ = some (.int .i64 y0)) := fun W q h => by
    obtain ⟨b, off, e, hbw, c, _⟩ := h.cells (L.length - 1) (by omega)
    rw [hy, show L.length - 1 = m by omega] at c
    exact ⟨b, off, e, hbw, c⟩
  rw [em] at G1
  have hm256 : m ≤ 256 := by omega
  have hw256 := Lib.hid (show wrap64 (m : Int) = m by unfold wrap64; omega)
  have hl256 : L.length ≤ 256 := hlen
  have hl0 : 0 < L.length := by omega
  by_cases h0 : ticks < 0
  · have hz := hdef.trans (by rw [decide_eq_false (by omega : ¬ 0 ≤ ticks), Bool.and_false])
    obtain ⟨z1, z2⟩ := hno hz
    rw [hz, z1, z2]
    clear hno hyes hdef g1 g2 f5 f6 eu enx eln hyI hy ey hlin hlinv hgood hsort en eL hs e0 hz z1 z2 hnx
    go_enter Try.func59, Try.ntmps59
    go_wp2_with fail
    (with_reducible refine (G2.out _ (HS.out.below M0.out.below)).mono ?_)
    rintro e w2 ⟨rfl, hb2⟩
    have M2 := Lib.hid ((M0.out.call hb2).alloc (.cells #[.int .i64 x0, .int .i64 x1, .int .i64 x2, .int .i64 x3] 94))
    obtain ⟨X, hX⟩ : ∃ X, w2.heap.size = X := ⟨_, rfl⟩
    rw [hX] at M2
    have K0 := Lib.hid (M2.out.heap 0 rfl)
    clear hb2 M0 G2
    go_wp2_with ((with_reducible refine wpList_store_rowAs rfl 73 _ _ rfl (w.heap.size) #[.int .i64 0, .int .i64 0] ?_ ?_ 73 #[.int .i64 0, .int .i64 0] 2 ?_ (by kernel_rfl) rfl rfl (by simp [Value.oneCell']) ?_); exact rfl; exact rfl; exact K0.out)
    have MF := Lib.hid (M2.out.setRow 0 (cs := #[.int .i64 0, .int .i64 0]) rfl)
    exact bodyPost_ret (results_row_tmp rfl _ _ w.heap.size 73 #[.int .i64 0, .int .i64 0] (0, 0) _ 2 _ rfl rfl (MF.out.heap 0 rfl) Try.underlying73 rfl sampSize2 rfl) rfl ⟨rfl, MF.out.below⟩
  have hz := hdef.trans (by rw [hdl, decide_eq_true (by omega : 0 ≤ ticks), Bool.true_and])
  obtain ⟨z1, z2⟩ := hyes hz
  rw [hz, z1, z2]
  clear hno hyes hdef g1 g2 f5 f6 eu enx eln hyI hy ey hlin hlinv hgood hsort en eL hs e0 hz z1 z2 hnx hdl
  go_enter Try.func59, Try.ntmps59
  go_wp2_with fail
  (with_reducible refine (G2.out _ (HS.out.below M0.out.below)).mono ?_)
  rintro e w2 ⟨rfl, hb2⟩
  have M2 := Lib.hid ((M0.out.call hb2).alloc (.cells #[.int .i64 x0, .int .i64 x1, .int .i64 x2, .int .i64 x3] 94))
  obtain ⟨X, hX⟩ : ∃ X, w2.heap.size = X := ⟨_, rfl⟩
  rw [hX] at M2
  have K0 := Lib.hid (M2.out.heap 0 rfl)
  clear hb2 M0 G2
  clear K0
  go_wp2_with fail
  (with_reducible refine (G1.out _ (HS.out.below M2.out.below)).mono ?_)
  rintro e w3 ⟨q, c, rfl, hc, hsa, _, hb3⟩
  have M3 := Lib.hid (M2.out.call hb3)
  obtain ⟨b, off, rfl, hbw, c0⟩ := HLC.out w3 q hsa
  have K2 := Lib.hid (M3.out.heap 1 rfl)
  clear hb3 M2 hX hsa hc G1
  go_wp2_with (first | ((with_reducible refine wpList_load_rowAs rfl 94 _ rfl (X) ?_ 94 #[.int .i64 x0, .int .i64 x1, .int .i64 x2, .int .i64 x3] (0, 0) _ 4 ?_ Try.underlying94 rfl (by kernel_rfl) ?_ ?_); exact rfl; exact K2.out; exact rfl) | ((with_reducible refine (F6.out _).mono ?_); rintro e w5 ⟨rfl, rfl⟩))
  (with_reducible refine (F5.out _).mono ?_)
  rintro e w4 ⟨rfl, hb4⟩
  have M4 := Lib.hid (M3.out.call hb4)
  have K0 := Lib.hid (M4.out.heap 0 rfl)
  clear hb4 M3 K2 c0
  go_wp2_with ((with_reducible refine wpList_store_rowAs rfl 73 _ _ rfl (w.heap.size) #[.int .i64 nx, .int .i64 u] ?_ ?_ 73 #[.int .i64 0, .int .i64 0] 2 ?_ (by kernel_rfl) rfl rfl (by simp [Value.oneCell']) ?_); exact rfl; exact rfl; exact K0.out)
  have MF := Lib.hid (M4.out.setRow 0 (cs := #[.int .i64 nx, .int .i64 u]) rfl)
  exact bodyPost_ret (results_row_tmp rfl _ _ w.heap.size 73 #[.int .i64 nx, .int .i64 u] (0, 0) _ 2 _ rfl rfl (MF.out.heap 0 rfl) Try.underlying73 rfl sampSize2 rfl) rfl ⟨rfl, MF.out.below⟩
end Go.Proofs.Ytcanbagnehdbiaa
