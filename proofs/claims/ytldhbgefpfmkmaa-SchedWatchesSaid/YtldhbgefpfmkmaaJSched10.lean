/- Layer 27: a run that somebody looks on, walked. -/
import Derived.Test.YtldhbgefpfmkmaaJSched9
import Derived.Test.YtldhbgefpfmkmaaJSchedP
namespace Go.Proofs.Ytldhbgefpfmkmaa
open Go.ChangeShapes Go.WideShapes Go.ChangeAt Go.RowKit

theorem Tasks.drewN {w : World} {q : Option Addr} {n : Nat} {bs : Nat → Option Nat} {T : Nat → Toy} {c : Nat} {used : Int} (h : Tasks w q n bs T c used) (d : Nat) : Tasks (w.drewN d) q n bs T c used :=
  ⟨h.sl, h.toy, h.clock, h.apart, h.off, h.offc, h.nil⟩
section
variable {w : World} {q : Option Addr} {n : Nat} {bs : Nat → Option Nat} {T : Nat → Toy} {c : Nat}
set_option maxHeartbeats 8000000 in
set_option maxRecDepth 100000 in
theorem sched_look (u0 : Nat) (h : Tasks w q n bs T c u0) (hT : ∀ i, i < n → (T i).In ∧ 0 ≤ (T i).phase ∧ (T i).phase ≤ 1000) (hn : n ≤ 20) (hu : u0 ≤ 50000) (cap : Nat) (pq : Option Addr) (m pc : Nat) (P : List Int) (hP : P.length = m) (hm : m ≤ 1000) (hPI : ∀ x ∈ P, I64 x) (hs : Ints .i64 w pq P) (bl : Nat) (most : Nat) (hml : most ≤ 100) (hbl : w.heap[bl]? = some (.cells #[.int .i64 0, .int .i64 most] 95 (0, 0))) (hbo : ¬ Tk.of n bs c bl) (hbq : ∀ ad, q = some ad → ad.block ≠ bl) (hpq : 0 < m → ∀ ad, pq = some ad → ¬ Tk.ofl n bs c bl ad.block) (hqb : ∀ k, w.heap.size ≤ k → ∀ ad, q = some ad → ad.block ≠ k) :
    Calls Try.prog 48 #[.slice q n cap, .slice pq m pc, .func (.func 49) #[.pointer (some ⟨bl, 0, none⟩)] #[]] w fun e w' => (∃ stk, e = .returned (.agg #[.int .i64 (Tk.lim most (Tk.at n u0 T P m).r : Nat), .slice (some ⟨w.heap.size + 1, 0, none⟩) n n, .bool stk])) ∧
      Turned (Tk.ofl n bs c bl) w w' ∧ w'.heap[bl]? = some (.cells #[.int .i64 (Tk.lim most (Tk.at n u0 T P m).r : Nat), .int .i64 most] 95 (0, 0)) := by
  have hblt : bl < w.heap.size := lt_of_heap hbl
  have HBO := Lib.hid hbo
  have HBQ := Lib.hid hbq
  have HUS := Lib.hid (fun k => (Tk.used_all (n := n) (u0 := u0) (T := T) (P := P) k).1)
  have HRI := Lib.hid (fun k => Tk.rises (n := n) (u0 := u0) (T := T) (P := P) k)
  have HG := Lib.hid (fun k => Tk.good (u0 := u0) hT P k)
  have HST := Lib.hid (fun k => Tk.stays (n := n) (u0 := u0) (T := T) (P := P) (k := k))
  have HNX := Lib.hid (fun k => show Tk.at n u0 T P (k + 1) = Tk.step n u0 (P[k]?.getD 0) (Tk.at n u0 T P k) from rfl)
  have HZ : Hid (Tk.at n u0 T P 0 = ⟨T, 0, List.replicate n 0, false⟩) := rfl
  have HLT := Lib.hid h.lt
  have H := Lib.hid h
  have HQB := Lib.hid hqb
  have HS := Lib.hid hs
  have HPQ := Lib.hid hpq
  have EN := Lib.hid hP
  have HPI := Lib.hid hPI
  obtain ⟨F, eF⟩ : ∃ F, F = Tk.at n u0 T P := ⟨_, rfl⟩
  simp only [← eF] at HG HST HNX HZ HUS HRI ⊢
  have R3 : Hid (LookAt (Tk.ofl n bs c bl) bl most w (((w.alloc (.cells #[.int .i64 0, .slice none 0 0, .bool false] 81)).alloc (.cells (intRow (List.replicate n 0)) 3)).alloc (.cells #[.int .i64 0, .slice (some ⟨w.heap.size + 1, 0, none⟩) n n, .bool false] 81)) n (List.replicate n 0) 0 0) := by
    have hM : Mem w _ _ := (((Mem.start w).alloc (.cells #[.int .i64 0, .slice none 0 0, .bool false] 81)).allocAs (w.heap.size + 1) (.cells (intRow (List.replicate n 0)) 3) (by simp)).allocAs (w.heap.size + 2) (.cells #[.int .i64 0, .slice (some ⟨w.heap.size + 1, 0, none⟩) n n, .bool false] 81) (by simp)
    exact ⟨⟨Turned.of_below hM.below, hM.heap 0 rfl, hM.heap 1 rfl, hM.heap 2 rfl⟩, (hM.below.block _ hblt).trans hbl⟩
  have T3 : Hid (Tasks (((w.alloc (.cells #[.int .i64 0, .slice none 0 0, .bool false] 81)).alloc (.cells (intRow (List.replicate n 0)) 3)).alloc (.cells #[.int .i64 0, .slice (some ⟨w.heap.size + 1, 0, none⟩) n n, .bool false] 81)) q n bs T c u0) := h.below (below3 w _ _ _)
  have hn100 : n ≤ 100000 := by omega
  have hfn := look_neq bl
  clear eF h hs hpq hP hT hPI hqb hbl hbo hbq
  go_enter Try.func48, Try.ntmps48
  go_wp2_with (at_make; refine wpList_make_ints rfl _ _ 74 rfl 3 Try.underlying74 intInfo27 n rfl rfl hn100 ?_)
  go_loopw [17] (fun i wr => ∃ k : Nat, k ≤ m ∧ i = .int .i64 (k : Nat) ∧ (F k).stop = false ∧ (most = 0 ∨ k < most) ∧ Tasks wr q n bs (F k).T c (u0 + (F k).r) ∧ LookAt (Tk.ofl n bs c bl) bl most w wr n (F k).st (F k).r (F k).r) (fun i _ => m - (intOf i).toNat)
  case atStart => exact ⟨0, by omega, rfl, by rw [HZ.out], by omega, by rw [HZ.out]; exact T3.out, by rw [HZ.out]; exact R3.out⟩
  case round =>
    obtain ⟨k, hk, rfl, hsp, hlk, hTs, hR⟩ := hrel
    have hus := HUS.out k hsp
    clear R3 T3 HZ
    by_cases hlt : k < m
    · have hkl : k < P.length := by have := EN.out; omega
      have hi : Ints .i64 wr pq P := (Sl.turnedG HS.out hR.run.turned (HPQ.out (by omega)) : _)
      obtain ⟨bq, off, e0, hbw, hcell⟩ := Sl.pos hi (by omega)
      subst e0
      have cp := hcell k (by omega)
      have hpi : I64 (P[k]?.getD 0) := by rw [List.getElem?_eq_getElem hkl]; exact HPI.out _ (List.getElem_mem _)
      have hg := HG.out k
      have hg2 := HG.out (k + 1)
      have hnx := HNX.out k
      obtain ⟨pk, epk⟩ : ∃ x, x = P[k]?.getD 0 := ⟨_, rfl⟩
      change wr.cell? ⟨bq, off + k, none⟩ = some (.int .i64 (P[k]?.getD 0)) at cp
      rw [← epk] at cp hpi hnx
      obtain ⟨s, es⟩ : ∃ s, s = F k := ⟨_, rfl⟩
      obtain ⟨s2, es2⟩ : ∃ s, s = F (k + 1) := ⟨_, rfl⟩
      have ES2 := Lib.hid es2
      rw [← es] at hg hnx hsp hTs hR hus
      have HU := Lib.hid hus
      clear hus
      rw [← es2] at hg2 hnx
      have hfine : Tk.Fine n s.T (u0 + s.r) := ⟨fun i hi => (hg.2.2.1 i hi).1, fun i hi => ⟨(hg.2.2.1 i hi).2.1, (hg.2.2.1 i hi).2.2.1⟩, by omega, by have := hg.1; omega⟩
      have N1 := Lib.hid (sched_next hTs hfine (by omega) cap pk hpi)
      unfold Tk.step at hnx
      rw [if_neg (by rw [hsp]; simp)] at hnx
      obtain ⟨x, ex⟩ : ∃ x, x = Tk.next n s.T (u0 + s.r) pk := ⟨_, rfl⟩
      rw [← ex] at N1 hnx
      have EX := Lib.hid ex
      have HTS := Lib.hid hTs
      have HR := Lib.hid hR
      have HG1 := Lib.hid hg
      have HG2 := Lib.hid hg2
      have hkn : (k : Int) < m := by omega
      have HUP := Lib.hid (HST.out (k + 1))
      by_cases hx : x < 0
      · rw [if_pos hx] at hnx
        have hfin : F m = ⟨s.T, s.r, s.st, true⟩ := by
          have h1 : (F (k + 1)).stop = true := by rw [← ES2.out, hnx]
          have h2 := HUP.out h1 (m - (k + 1))
          rw [show k + 1 + (m - (k + 1)) = m by omega] at h2
          rw [h2, ← ES2.out, hnx]
        have HL : Hid (Tk.lim most (F m).r = s.r) := by
          rw [hfin]
          show Tk.lim most s.r = s.r
          have := HU.out
          unfold Tk.lim
          split <;> omega
        clear hnx hfin ex es es2 epk hpi hg hg2 hcell hi hTs hR hsp hfine
        go_wp2_with fail
        (with_reducible refine N1.out.mono ?_)
        rintro e w1 ⟨rfl, hb1⟩
        have T1 := Lib.hid (HTS.out.below hb1)
        have R1 := Lib.hid (HR.out.below hb1)
        clear hb1 HTS HR N1
        have hg1 := HG1.out
        have hfine : Tk.Fine n s.T (u0 + s.r) := ⟨fun i hi => (hg1.2.2.1 i hi).1, fun i hi => ⟨(hg1.2.2.1 i hi).2.1, (hg1.2.2.1 i hi).2.2.1⟩, by omega, by have := hg1.1; omega⟩
        have N2 := Lib.hid (sched_next T1.out hfine (by omega) cap 0 ⟨by omega, by omega⟩)
        obtain ⟨y, ey⟩ : ∃ y, y = Tk.next n s.T (u0 + s.r) 0 := ⟨_, rfl⟩
        obtain ⟨op, eop⟩ : ∃ y, y = Tk.open' s.T n := ⟨_, rfl⟩
        rw [← ey] at N2
        have EOP := Lib.hid eop
        clear hg1 hfine ey eop
        go_wp2_with fail
        (with_reducible refine N2.out.mono ?_)
        rintro e w5 ⟨rfl, hb5⟩
        have T5 := Lib.hid (T1.out.below hb5)
        have R5 := Lib.hid (R1.out.below hb5)
        have O5 := Lib.hid (sched_open T5.out (by omega) cap)
        rw [← EOP.out] at O5
        have z2 : w5.frozen? ⟨w.heap.size + 2, 2, none⟩ = false := frozen_of_row _ _ _ _ _ R5.out.run.h2
        have y2 : w5.cell? ⟨w.heap.size + 2, 2, none⟩ = some (.bool false) := by rw [cell_of_row _ _ _ _ _ _ R5.out.run.h2]; rfl
        clear hb5 T1 R1 N2
        by_cases hy : y < 0
        · have hdy : decide (y < 0) = true := decide_eq_true hy
          by_cases hop : 0 < op
          · have hdo : decide (0 < op) = true := decide_eq_true hop
            have h6 : (w5.setCell ⟨w.heap.size + 2, 2, none⟩ (.bool true)).heap[w.heap.size + 2]? = some (.cells #[.int .i64 (s.r : Nat), .slice (some ⟨w.heap.size + 1, 0, none⟩) n n, .bool true] 81 (0, 0)) := by rw [heap_setCell_same _ _ _ _ _ _ R5.out.run.h2]; rfl
            have h60 : (w5.setCell ⟨w.heap.size + 2, 2, none⟩ (.bool true)).heap[w.heap.size]? = some (.cells #[.int .i64 0, .slice none 0 0, .bool false] 81 (0, 0)) := (Below.heap_setCell _ _ _ _ (by show w.heap.size ≠ w.heap.size + 2; omega)).trans R5.out.run.h0
            have K6 := Lib.hid h6
            have K60 := Lib.hid h60
            clear h6 h60
            go_wp2_with (first | ((with_reducible refine O5.out.mono ?_); rintro e w6 ⟨rfl, rfl⟩) | ((with_reducible refine wpList_load_rowAs rfl 81 _ rfl ((w.heap.size + 2)) ?_ 81 #[.int .i64 (s.r : Nat), .slice (some ⟨w.heap.size + 1, 0, none⟩) n n, .bool true] (0, 0) _ 3 ?_ Try.underlying81 rfl (by kernel_rfl) ?_ ?_); exact rfl; exact K6.out; exact rfl) | ((with_reducible refine wpList_store_rowAs rfl 81 _ _ rfl (w.heap.size) #[.int .i64 (s.r : Nat), .slice (some ⟨w.heap.size + 1, 0, none⟩) n n, .bool true] ?_ ?_ 81 #[.int .i64 0, .slice none 0 0, .bool false] 3 ?_ (by kernel_rfl) rfl rfl (by simp [Value.oneCell']) ?_); exact rfl; exact rfl; exact K60.out))
            have hT8 := (R5.out.run.turned.setCell (b := w.heap.size + 2) (j := 2) (.bool true) (fun h => by omega)).trans (turned_row27 _ w.heap.size #[.int .i64 (s.r : Nat), .slice (some ⟨w.heap.size + 1, 0, none⟩) n n, .bool true]) (fun k hk e => by have e2 : k = w.heap.size := e; omega)
            have h7 : ((w5.setCell ⟨w.heap.size + 2, 2, none⟩ (.bool true)).setRow w.heap.size #[.int .i64 (s.r : Nat), .slice (some ⟨w.heap.size + 1, 0, none⟩) n n, .bool true]).heap[bl]? = some (.cells #[.int .i64 (s.r : Nat), .int .i64 most] 95 (0, 0)) := (setRow_other _ _ _ _ (by omega)).trans ((Below.heap_setCell _ _ _ _ (by show bl ≠ w.heap.size + 2; omega)).trans R5.out.look)
            refine bodyPost_ret (v := .agg #[.int .i64 (s.r : Nat), .slice (some ⟨w.heap.size + 1, 0, none⟩) n n, .bool true]) ?_ ?_ ?_
            · exact results_cell_row rfl _ _ w.heap.size 81 #[.int .i64 (s.r : Nat), .slice (some ⟨w.heap.size + 1, 0, none⟩) n n, .bool true] (0, 0) _ rfl (setRow_heap _ _ _ _ _ _ K60.out) Try.underlying81 rfl (by kernel_rfl)
            · rfl
            rw [HL.out]
            exact ⟨⟨true, rfl⟩, hT8, h7⟩
          · have hdo : decide (0 < op) = false := decide_eq_false hop
            have h6 : (w5.setCell ⟨w.heap.size + 2, 2, none⟩ (.bool false)).heap[w.heap.size + 2]? = some (.cells #[.int .i64 (s.r : Nat), .slice (some ⟨w.heap.size + 1, 0, none⟩) n n, .bool false] 81 (0, 0)) := by rw [heap_setCell_same _ _ _ _ _ _ R5.out.run.h2]; rfl
            have h60 : (w5.setCell ⟨w.heap.size + 2, 2, none⟩ (.bool false)).heap[w.heap.size]? = some (.cells #[.int .i64 0, .slice none 0 0, .bool false] 81 (0, 0)) := (Below.heap_setCell _ _ _ _ (by show w.heap.size ≠ w.heap.size + 2; omega)).trans R5.out.run.h0
            have K6 := Lib.hid h6
            have K60 := Lib.hid h60
            clear h6 h60
            go_wp2_with (first | ((with_reducible refine O5.out.mono ?_); rintro e w6 ⟨rfl, rfl⟩) | ((with_reducible refine wpList_load_rowAs rfl 81 _ rfl ((w.heap.size + 2)) ?_ 81 #[.int .i64 (s.r : Nat), .slice (some ⟨w.heap.size + 1, 0, none⟩) n n, .bool false] (0, 0) _ 3 ?_ Try.underlying81 rfl (by kernel_rfl) ?_ ?_); exact rfl; exact K6.out; exact rfl) | ((with_reducible refine wpList_store_rowAs rfl 81 _ _ rfl (w.heap.size) #[.int .i64 (s.r : Nat), .slice (some ⟨w.heap.size + 1, 0, none⟩) n n, .bool false] ?_ ?_ 81 #[.int .i64 0, .slice none 0 0, .bool false] 3 ?_ (by kernel_rfl) rfl rfl (by simp [Value.oneCell']) ?_); exact rfl; exact rfl; exact K60.out))
            have hT8 := (R5.out.run.turned.setCell (b := w.heap.size + 2) (j := 2) (.bool false) (fun h => by omega)).trans (turned_row27 _ w.heap.size #[.int .i64 (s.r : Nat), .slice (some ⟨w.heap.size + 1, 0, none⟩) n n, .bool false]) (fun k hk e => by have e2 : k = w.heap.size := e; omega)
            have h7 : ((w5.setCell ⟨w.heap.size + 2, 2, none⟩ (.bool false)).setRow w.heap.size #[.int .i64 (s.r : Nat), .slice (some ⟨w.heap.size + 1, 0, none⟩) n n, .bool false]).heap[bl]? = some (.cells #[.int .i64 (s.r : Nat), .int .i64 most] 95 (0, 0)) := (setRow_other _ _ _ _ (by omega)).trans ((Below.heap_setCell _ _ _ _ (by show bl ≠ w.heap.size + 2; omega)).trans R5.out.look)
            refine bodyPost_ret (v := .agg #[.int .i64 (s.r : Nat), .slice (some ⟨w.heap.size + 1, 0, none⟩) n n, .bool false]) ?_ ?_ ?_
            · exact results_cell_row rfl _ _ w.heap.size 81 #[.int .i64 (s.r : Nat), .slice (some ⟨w.heap.size + 1, 0, none⟩) n n, .bool false] (0, 0) _ rfl (setRow_heap _ _ _ _ _ _ K60.out) Try.underlying81 rfl (by kernel_rfl)
            · rfl
            rw [HL.out]
            exact ⟨⟨false, rfl⟩, hT8, h7⟩
        · have hdy : decide (y < 0) = false := decide_eq_false hy
          have h6 : (w5.setCell ⟨w.heap.size + 2, 2, none⟩ (.bool false)).heap[w.heap.size + 2]? = some (.cells #[.int .i64 (s.r : Nat), .slice (some ⟨w.heap.size + 1, 0, none⟩) n n, .bool false] 81 (0, 0)) := by rw [heap_setCell_same _ _ _ _ _ _ R5.out.run.h2]; rfl
          have h60 : (w5.setCell ⟨w.heap.size + 2, 2, none⟩ (.bool false)).heap[w.heap.size]? = some (.cells #[.int .i64 0, .slice none 0 0, .bool false] 81 (0, 0)) := (Below.heap_setCell _ _ _ _ (by show w.heap.size ≠ w.heap.size + 2; omega)).trans R5.out.run.h0
          have K6 := Lib.hid h6
          have K60 := Lib.hid h60
          clear h6 h60
          go_wp2_with (first | ((with_reducible refine O5.out.mono ?_); rintro e w6 ⟨rfl, rfl⟩) | ((with_reducible refine wpList_load_rowAs rfl 81 _ rfl ((w.heap.size + 2)) ?_ 81 #[.int .i64 (s.r : Nat), .slice (some ⟨w.heap.size + 1, 0, none⟩) n n, .bool false] (0, 0) _ 3 ?_ Try.underlying81 rfl (by kernel_rfl) ?_ ?_); exact rfl; exact K6.out; exact rfl) | ((with_reducible refine wpList_store_rowAs rfl 81 _ _ rfl (w.heap.size) #[.int .i64 (s.r : Nat), .slice (some ⟨w.heap.size + 1, 0, none⟩) n n, .bool false] ?_ ?_ 81 #[.int .i64 0, .slice none 0 0, .bool false] 3 ?_ (by kernel_rfl) rfl rfl (by simp [Value.oneCell']) ?_); exact rfl; exact rfl; exact K60.out))
          have hT8 := (R5.out.run.turned.setCell (b := w.heap.size + 2) (j := 2) (.bool false) (fun h => by omega)).trans (turned_row27 _ w.heap.size #[.int .i64 (s.r : Nat), .slice (some ⟨w.heap.size + 1, 0, none⟩) n n, .bool false]) (fun k hk e => by have e2 : k = w.heap.size := e; omega)
          have h7 : ((w5.setCell ⟨w.heap.size + 2, 2, none⟩ (.bool false)).setRow w.heap.size #[.int .i64 (s.r : Nat), .slice (some ⟨w.heap.size + 1, 0, none⟩) n n, .bool false]).heap[bl]? = some (.cells #[.int .i64 (s.r : Nat), .int .i64 most] 95 (0, 0)) := (setRow_other _ _ _ _ (by omega)).trans ((Below.heap_setCell _ _ _ _ (by show bl ≠ w.heap.size + 2; omega)).trans R5.out.look)
          refine bodyPost_ret (v := .agg #[.int .i64 (s.r : Nat), .slice (some ⟨w.heap.size + 1, 0, none⟩) n n, .bool false]) ?_ ?_ ?_
          · exact results_cell_row rfl _ _ w.heap.size 81 #[.int .i64 (s.r : Nat), .slice (some ⟨w.heap.size + 1, 0, none⟩) n n, .bool false] (0, 0) _ rfl (setRow_heap _ _ _ _ _ _ K60.out) Try.underlying81 rfl (by kernel_rfl)
          · rfl
          rw [HL.out]
          exact ⟨⟨false, rfl⟩, hT8, h7⟩
      · rw [if_neg hx] at hnx
        obtain ⟨xn, exn, hxl, hrd⟩ := Tk.next_in (by rw [← EX.out]; exact hx : ¬ Tk.next n s.T (u0 + s.r) pk < 0)
        obtain rfl : x = xn := EX.out.trans exn
        rw [Int.toNat_natCast] at hnx
        have hl1 : ¬ (s.T xn).left < 1 := fun h => by unfold Toy.ready at hrd; rw [if_pos h] at hrd; cases hrd
        cases hb : bs xn with
        | none => exact absurd (hTs.nil xn hxl hb) hl1
        | some b =>
          have hv := hg.2.2.2 xn
          have hlen := hg.2.1
          obtain ⟨v, ev⟩ : ∃ v, v = s.st[xn]?.getD 0 := ⟨_, rfl⟩
          rw [← ev] at hnx hv
          have hr1 := hg.1
          obtain ⟨r, er⟩ : ∃ r, r = s.r := ⟨_, rfl⟩
          have HNX2 := Lib.hid hnx
          have EV := Lib.hid ev
          have ER := Lib.hid er
          rw [← er] at hr1
          have hmm := fun (n : Nat) (w : World) => m_step n b w
          have HL1 := Lib.hid hl1
          have hxn : (xn : Int) < n := by omega
          have HXL := Lib.hid hxl
          have HB := Lib.hid hb
          have HLEN := Lib.hid hlen
          have HTI := Lib.hid (hg.2.2.1 xn hxl).1
          clear hnx hrd exn ex es es2 epk hpi hg hg2 hcell hi hTs hR hsp hfine ev er hl1 hb hlen
          go_wp2_with fail
          (with_reducible refine N1.out.mono ?_)
          rintro e w1 ⟨rfl, hb1⟩
          have hT1 := HTS.out.below hb1
          have T1 := Lib.hid hT1
          have R1 := Lib.hid (HR.out.below hb1)
          obtain ⟨bt, offt, rfl, hbwt, hct⟩ := Sl.pos hT1.sl (by omega)
          have ct := hct xn (by omega)
          change w1.cell? ⟨bt, offt + xn, none⟩ = some (Tk.val (bs xn)) at ct
          rw [HB.out] at ct
          change w1.cell? ⟨bt, offt + xn, none⟩ = some (Value.iface 160 (.pointer (some ⟨b, 0, none⟩))) at ct
          have hrow := hT1.toy xn b HXL.out HB.out
          have SP := Lib.hid (toy_step b c (s.T xn) HTI.out (by have := HL1.out; omega) (u0 + s.r) (by omega) (by have := ER.out; omega) w1 (hT1.off xn b HXL.out HB.out).1 hrow hT1.clock)
          clear hb1 HTS HR N1 hct hT1 hrow hbwt
          go_wp2_with fail
          (with_reducible refine SP.out.mono ?_)
          rintro e w2 ⟨⟨v0, rfl⟩, hw2⟩
          have T2 : Hid (Tasks w2 (some ⟨bt, offt, none⟩) n bs (Tk.less s.T xn) c (u0 + s.r + 1)) := by show Tasks _ _ _ _ _ _ _; rw [hw2]; exact T1.out.step HXL.out HB.out
          have R2 : Hid (LookAt (Tk.ofl n bs c bl) bl most w w2 n s.st s.r s.r) := by show LookAt _ _ _ _ _ _ _ _ _; rw [hw2]; exact R1.out.step HLT.out HBO.out (.inr ⟨xn, HXL.out, HB.out⟩)
          clear hw2 T1 R1 SP ct
          rw [← ER.out] at T2 R2
          have hlx : xn < s.st.length := by have := HLEN.out; have := HXL.out; omega
          have a1 : w2.cell? ⟨w.heap.size + 2, 1, none⟩ = some (.slice (some ⟨w.heap.size + 1, 0, none⟩) n n) := by rw [cell_of_row _ _ _ _ _ _ R2.out.run.h2]; rfl
          have a2 : w2.cell? ⟨w.heap.size + 1, xn, none⟩ = some (.int .i64 v) := by rw [cell_of_row _ _ _ _ _ _ R2.out.run.h1, intRow_get _ _ hlx, ← EV.out]
          have a3 : w2.frozen? ⟨w.heap.size + 1, xn, none⟩ = false := frozen_of_row _ _ _ _ _ R2.out.run.h1
          have h23 : (w2.setCell ⟨w.heap.size + 1, xn, none⟩ (.int .i64 (v + 1))).heap[w.heap.size + 2]? = some (.cells #[.int .i64 r, .slice (some ⟨w.heap.size + 1, 0, none⟩) n n, .bool false] 81 (0, 0)) := (Below.heap_setCell _ _ _ _ (by show w.heap.size + 2 ≠ w.heap.size + 1; omega)).trans R2.out.run.h2
          have b1 : (w2.setCell ⟨w.heap.size + 1, xn, none⟩ (.int .i64 (v + 1))).cell? ⟨w.heap.size + 2, 0, none⟩ = some (.int .i64 r) := by rw [cell_of_row _ _ _ _ _ _ h23]; rfl
          have b2 : (w2.setCell ⟨w.heap.size + 1, xn, none⟩ (.int .i64 (v + 1))).frozen? ⟨w.heap.size + 2, 0, none⟩ = false := frozen_of_row _ _ _ _ _ h23
          have R4 := Lib.hid (R2.out.incr hblt xn (v + 1) ((r : Int) + 1))
          have hno : ∀ b', w.heap.size ≤ b' → ¬ Tk.of n bs c b' := fun b' hb' hh => by have := HLT.out b' hh; omega
          have hqa := HQB.out
          have T4 := Lib.hid ((T2.out.other (j := xn) (v := .int .i64 (v + 1)) (hno (w.heap.size + 1) (by omega)) (hqa (w.heap.size + 1) (by omega))).other (j := 0) (v := .int .i64 ((r : Int) + 1)) (hno (w.heap.size + 2) (by omega)) (hqa (w.heap.size + 2) (by omega)))
          have c1 : ((w2.setCell ⟨w.heap.size + 1, xn, none⟩ (.int .i64 (v + 1))).setCell ⟨w.heap.size + 2, 0, none⟩ (.int .i64 ((r : Int) + 1))).cell? ⟨w.heap.size + 2, 0, none⟩ = some (.int .i64 ((r : Int) + 1)) := by rw [cell_of_row _ _ _ _ _ _ R4.out.run.h2]; rfl
          have hst2 : F (k + 1) = ⟨Tk.less s.T xn, s.r + 1, s.st.set xn (v + 1), false⟩ := by rw [← ES2.out, HNX2.out]
          have HF2 := Lib.hid hst2
          clear h23 hno hqa R2 T2 hst2
          have HRK : Hid (r = k) := ER.out.trans HU.out
          by_cases hq : r + 1 = most
          · have HQ := Lib.hid hq
            have hq2 : (most : Int) = (r : Int) + 1 := by omega
            rw [hq2] at R4
            have hr0 := HRK.out
            have SE := Lib.hid (look_off bl r _ R4.out.look ⟨by omega, by omega⟩)
            clear hq hq2 hr0
            go_wp2_with fail
            (with_reducible refine SE.out.mono ?_)
            rintro e w3 ⟨rfl, d3, hw3⟩
            have hT0 := T4.out.other (j := 0) (v := .int .i64 ((r : Int) + 1)) HBO.out HBQ.out
            have HL : Hid (Tk.lim most (F m).r = r + 1) := by
              have h1 := HRI.out (k + 1) (m - (k + 1))
              rw [show k + 1 + (m - (k + 1)) = m by omega, HF2.out] at h1
              have h2 : s.r + 1 ≤ (F m).r := h1
              have h3 := ER.out
              have h4 := HQ.out
              show Tk.lim most (F m).r = r + 1
              unfold Tk.lim
              split <;> omega
            have HG1 := HG2
            rw [ES2.out, HF2.out] at HG1
            obtain ⟨s3, es3⟩ : ∃ s3 : TS, s3 = ⟨Tk.less s.T xn, s.r + 1, s.st.set xn (v + 1), false⟩ := ⟨_, rfl⟩
            have hr3 : s3.r = r + 1 := by rw [es3]; show s.r + 1 = r + 1; rw [ER.out]
            have T1 : Hid (Tasks w3 (some ⟨bt, offt, none⟩) n bs s3.T c (u0 + s3.r)) := by
              show Tasks _ _ _ _ _ _ _
              rw [hw3, hr3, show ((u0 : Int) + ((r + 1 : Nat) : Int)) = u0 + r + 1 by omega, es3]
              exact hT0.drewN d3
            have R1 : Hid (LookAt (Tk.ofl n bs c bl) bl most w w3 n s3.st s3.r s3.r) := by
              show LookAt _ _ _ _ _ _ _ _ _
              have hq3 : (most : Int) = r + 1 := by have := HQ.out; omega
              rw [hw3, hr3, hq3, show (((r + 1 : Nat) : Nat) : Int) = r + 1 by omega, es3]
              exact R4.out.seen d3 hblt _
            rw [← es3] at HG1
            rw [← hr3] at HL
            have hmo : most = s3.r := by have := HQ.out; omega
            clear hw3 hT0 SE T4 R4 HF2 es3 c1
            clear HNX2 ES2 HUP EV ER
            have hg1 := HG1.out
            have hfine : Tk.Fine n s3.T (u0 + s3.r) := ⟨fun i hi => (hg1.2.2.1 i hi).1, fun i hi => ⟨(hg1.2.2.1 i hi).2.1, (hg1.2.2.1 i hi).2.2.1⟩, by omega, by have := hg1.1; omega⟩
            have N2 := Lib.hid (sched_next T1.out hfine (by omega) cap 0 ⟨by omega, by omega⟩)
            obtain ⟨y, ey⟩ : ∃ y, y = Tk.next n s3.T (u0 + s3.r) 0 := ⟨_, rfl⟩
            obtain ⟨op, eop⟩ : ∃ y, y = Tk.open' s3.T n := ⟨_, rfl⟩
            rw [← ey] at N2
            have EOP := Lib.hid eop
            clear hg1 hfine ey eop
            go_wp2_with fail
            (with_reducible refine N2.out.mono ?_)
            rintro e w5 ⟨rfl, hb5⟩
            have T5 := Lib.hid (T1.out.below hb5)
            have R5 := Lib.hid (R1.out.below hb5)
            have O5 := Lib.hid (sched_open T5.out (by omega) cap)
            rw [← EOP.out] at O5
            have z2 : w5.frozen? ⟨w.heap.size + 2, 2, none⟩ = false := frozen_of_row _ _ _ _ _ R5.out.run.h2
            have y2 : w5.cell? ⟨w.heap.size + 2, 2, none⟩ = some (.bool false) := by rw [cell_of_row _ _ _ _ _ _ R5.out.run.h2]; rfl
            clear hb5 T1 R1 N2
            by_cases hy : y < 0
            · have hdy : decide (y < 0) = true := decide_eq_true hy
              by_cases hop : 0 < op
              · have hdo : decide (0 < op) = true := decide_eq_true hop
                have h6 : (w5.setCell ⟨w.heap.size + 2, 2, none⟩ (.bool true)).heap[w.heap.size + 2]? = some (.cells #[.int .i64 (s3.r : Nat), .slice (some ⟨w.heap.size + 1, 0, none⟩) n n, .bool true] 81 (0, 0)) := by rw [heap_setCell_same _ _ _ _ _ _ R5.out.run.h2]; rfl
                have h60 : (w5.setCell ⟨w.heap.size + 2, 2, none⟩ (.bool true)).heap[w.heap.size]? = some (.cells #[.int .i64 0, .slice none 0 0, .bool false] 81 (0, 0)) := (Below.heap_setCell _ _ _ _ (by show w.heap.size ≠ w.heap.size + 2; omega)).trans R5.out.run.h0
                have K6 := Lib.hid h6
                have K60 := Lib.hid h60
                clear h6 h60
                go_wp2_with (first | ((with_reducible refine O5.out.mono ?_); rintro e w6 ⟨rfl, rfl⟩) | ((with_reducible refine wpList_load_rowAs rfl 81 _ rfl ((w.heap.size + 2)) ?_ 81 #[.int .i64 (s3.r : Nat), .slice (some ⟨w.heap.size + 1, 0, none⟩) n n, .bool true] (0, 0) _ 3 ?_ Try.underlying81 rfl (by kernel_rfl) ?_ ?_); exact rfl; exact K6.out; exact rfl) | ((with_reducible refine wpList_store_rowAs rfl 81 _ _ rfl (w.heap.size) #[.int .i64 (s3.r : Nat), .slice (some ⟨w.heap.size + 1, 0, none⟩) n n, .bool true] ?_ ?_ 81 #[.int .i64 0, .slice none 0 0, .bool false] 3 ?_ (by kernel_rfl) rfl rfl (by simp [Value.oneCell']) ?_); exact rfl; exact rfl; exact K60.out))
                have hT8 := (R5.out.run.turned.setCell (b := w.heap.size + 2) (j := 2) (.bool true) (fun h => by omega)).trans (turned_row27 _ w.heap.size #[.int .i64 (s3.r : Nat), .slice (some ⟨w.heap.size + 1, 0, none⟩) n n, .bool true]) (fun k hk e => by have e2 : k = w.heap.size := e; omega)
                have h7 : ((w5.setCell ⟨w.heap.size + 2, 2, none⟩ (.bool true)).setRow w.heap.size #[.int .i64 (s3.r : Nat), .slice (some ⟨w.heap.size + 1, 0, none⟩) n n, .bool true]).heap[bl]? = some (.cells #[.int .i64 (s3.r : Nat), .int .i64 most] 95 (0, 0)) := (setRow_other _ _ _ _ (by omega)).trans ((Below.heap_setCell _ _ _ _ (by show bl ≠ w.heap.size + 2; omega)).trans R5.out.look)
                refine bodyPost_ret (v := .agg #[.int .i64 (s3.r : Nat), .slice (some ⟨w.heap.size + 1, 0, none⟩) n n, .bool true]) ?_ ?_ ?_
                · exact results_cell_row rfl _ _ w.heap.size 81 #[.int .i64 (s3.r : Nat), .slice (some ⟨w.heap.size + 1, 0, none⟩) n n, .bool true] (0, 0) _ rfl (setRow_heap _ _ _ _ _ _ K60.out) Try.underlying81 rfl (by kernel_rfl)
                · rfl
                rw [HL.out]
                exact ⟨⟨true, rfl⟩, hT8, h7⟩
              · have hdo : decide (0 < op) = false := decide_eq_false hop
                have h6 : (w5.setCell ⟨w.heap.size + 2, 2, none⟩ (.bool false)).heap[w.heap.size + 2]? = some (.cells #[.int .i64 (s3.r : Nat), .slice (some ⟨w.heap.size + 1, 0, none⟩) n n, .bool false] 81 (0, 0)) := by rw [heap_setCell_same _ _ _ _ _ _ R5.out.run.h2]; rfl
                have h60 : (w5.setCell ⟨w.heap.size + 2, 2, none⟩ (.bool false)).heap[w.heap.size]? = some (.cells #[.int .i64 0, .slice none 0 0, .bool false] 81 (0, 0)) := (Below.heap_setCell _ _ _ _ (by show w.heap.size ≠ w.heap.size + 2; omega)).trans R5.out.run.h0
                have K6 := Lib.hid h6
                have K60 := Lib.hid h60
                clear h6 h60
                go_wp2_with (first | ((with_reducible refine O5.out.mono ?_); rintro e w6 ⟨rfl, rfl⟩) | ((with_reducible refine wpList_load_rowAs rfl 81 _ rfl ((w.heap.size + 2)) ?_ 81 #[.int .i64 (s3.r : Nat), .slice (some ⟨w.heap.size + 1, 0, none⟩) n n, .bool false] (0, 0) _ 3 ?_ Try.underlying81 rfl (by kernel_rfl) ?_ ?_); exact rfl; exact K6.out; exact rfl) | ((with_reducible refine wpList_store_rowAs rfl 81 _ _ rfl (w.heap.size) #[.int .i64 (s3.r : Nat), .slice (some ⟨w.heap.size + 1, 0, none⟩) n n, .bool false] ?_ ?_ 81 #[.int .i64 0, .slice none 0 0, .bool false] 3 ?_ (by kernel_rfl) rfl rfl (by simp [Value.oneCell']) ?_); exact rfl; exact rfl; exact K60.out))
                have hT8 := (R5.out.run.turned.setCell (b := w.heap.size + 2) (j := 2) (.bool false) (fun h => by omega)).trans (turned_row27 _ w.heap.size #[.int .i64 (s3.r : Nat), .slice (some ⟨w.heap.size + 1, 0, none⟩) n n, .bool false]) (fun k hk e => by have e2 : k = w.heap.size := e; omega)
                have h7 : ((w5.setCell ⟨w.heap.size + 2, 2, none⟩ (.bool false)).setRow w.heap.size #[.int .i64 (s3.r : Nat), .slice (some ⟨w.heap.size + 1, 0, none⟩) n n, .bool false]).heap[bl]? = some (.cells #[.int .i64 (s3.r : Nat), .int .i64 most] 95 (0, 0)) := (setRow_other _ _ _ _ (by omega)).trans ((Below.heap_setCell _ _ _ _ (by show bl ≠ w.heap.size + 2; omega)).trans R5.out.look)
                refine bodyPost_ret (v := .agg #[.int .i64 (s3.r : Nat), .slice (some ⟨w.heap.size + 1, 0, none⟩) n n, .bool false]) ?_ ?_ ?_
                · exact results_cell_row rfl _ _ w.heap.size 81 #[.int .i64 (s3.r : Nat), .slice (some ⟨w.heap.size + 1, 0, none⟩) n n, .bool false] (0, 0) _ rfl (setRow_heap _ _ _ _ _ _ K60.out) Try.underlying81 rfl (by kernel_rfl)
                · rfl
                rw [HL.out]
                exact ⟨⟨false, rfl⟩, hT8, h7⟩
            · have hdy : decide (y < 0) = false := decide_eq_false hy
              have h6 : (w5.setCell ⟨w.heap.size + 2, 2, none⟩ (.bool false)).heap[w.heap.size + 2]? = some (.cells #[.int .i64 (s3.r : Nat), .slice (some ⟨w.heap.size + 1, 0, none⟩) n n, .bool false] 81 (0, 0)) := by rw [heap_setCell_same _ _ _ _ _ _ R5.out.run.h2]; rfl
              have h60 : (w5.setCell ⟨w.heap.size + 2, 2, none⟩ (.bool false)).heap[w.heap.size]? = some (.cells #[.int .i64 0, .slice none 0 0, .bool false] 81 (0, 0)) := (Below.heap_setCell _ _ _ _ (by show w.heap.size ≠ w.heap.size + 2; omega)).trans R5.out.run.h0
              have K6 := Lib.hid h6
              have K60 := Lib.hid h60
              clear h6 h60
              go_wp2_with (first | ((with_reducible refine O5.out.mono ?_); rintro e w6 ⟨rfl, rfl⟩) | ((with_reducible refine wpList_load_rowAs rfl 81 _ rfl ((w.heap.size + 2)) ?_ 81 #[.int .i64 (s3.r : Nat), .slice (some ⟨w.heap.size + 1, 0, none⟩) n n, .bool false] (0, 0) _ 3 ?_ Try.underlying81 rfl (by kernel_rfl) ?_ ?_); exact rfl; exact K6.out; exact rfl) | ((with_reducible refine wpList_store_rowAs rfl 81 _ _ rfl (w.heap.size) #[.int .i64 (s3.r : Nat), .slice (some ⟨w.heap.size + 1, 0, none⟩) n n, .bool false] ?_ ?_ 81 #[.int .i64 0, .slice none 0 0, .bool false] 3 ?_ (by kernel_rfl) rfl rfl (by simp [Value.oneCell']) ?_); exact rfl; exact rfl; exact K60.out))
              have hT8 := (R5.out.run.turned.setCell (b := w.heap.size + 2) (j := 2) (.bool false) (fun h => by omega)).trans (turned_row27 _ w.heap.size #[.int .i64 (s3.r : Nat), .slice (some ⟨w.heap.size + 1, 0, none⟩) n n, .bool false]) (fun k hk e => by have e2 : k = w.heap.size := e; omega)
              have h7 : ((w5.setCell ⟨w.heap.size + 2, 2, none⟩ (.bool false)).setRow w.heap.size #[.int .i64 (s3.r : Nat), .slice (some ⟨w.heap.size + 1, 0, none⟩) n n, .bool false]).heap[bl]? = some (.cells #[.int .i64 (s3.r : Nat), .int .i64 most] 95 (0, 0)) := (setRow_other _ _ _ _ (by omega)).trans ((Below.heap_setCell _ _ _ _ (by show bl ≠ w.heap.size + 2; omega)).trans R5.out.look)
              refine bodyPost_ret (v := .agg #[.int .i64 (s3.r : Nat), .slice (some ⟨w.heap.size + 1, 0, none⟩) n n, .bool false]) ?_ ?_ ?_
              · exact results_cell_row rfl _ _ w.heap.size 81 #[.int .i64 (s3.r : Nat), .slice (some ⟨w.heap.size + 1, 0, none⟩) n n, .bool false] (0, 0) _ rfl (setRow_heap _ _ _ _ _ _ K60.out) Try.underlying81 rfl (by kernel_rfl)
              · rfl
              rw [HL.out]
              exact ⟨⟨false, rfl⟩, hT8, h7⟩
          · have hr0 := HRK.out
            have SE := Lib.hid (look_on bl r most _ R4.out.look ⟨by omega, by omega⟩ (by omega))
            have HQ := Lib.hid hq
            clear hq hr0
            go_wp2_with fail
            (with_reducible refine SE.out.mono ?_)
            rintro e w3 ⟨rfl, d3, rfl⟩
            have hT0 := Lib.hid ((T4.out.other (j := 0) (v := .int .i64 ((r : Int) + 1)) HBO.out HBQ.out).drewN d3)
            have R5 := Lib.hid (R4.out.seen d3 hblt ((r : Int) + 1))
            clear SE
            go_wp2_with fail
            exact ⟨⟨k + 1, by omega, by go_num, by rw [HF2.out], by have := HQ.out; have := HRK.out; omega, by rw [HF2.out]; have := hT0.out; simp only [← ER.out]; rw [show ((u0 : Int) + ((r + 1 : Nat) : Int)) = u0 + r + 1 by omega]; exact this, by rw [HF2.out]; have := R5.out; simp only [← ER.out]; rw [show ((r + 1 : Nat) : Int) = r + 1 by omega]; exact this⟩, by simp [intOf]; omega⟩
    · obtain rfl : k = m := by omega
      obtain ⟨s, es⟩ : ∃ s, s = F k := ⟨_, rfl⟩
      have hg := HG.out k
      have HL : Hid (Tk.lim most (F k).r = s.r) := by
        have := hus
        rw [← es] at this ⊢
        show Tk.lim most s.r = s.r
        unfold Tk.lim
        split <;> omega
      rw [← es] at hTs hR hg hus
      have HUK := Lib.hid hus
      clear hus
      have HG1 := Lib.hid hg
      have T1 := Lib.hid hTs
      have R1 := Lib.hid hR
      clear es hTs hR hsp hg
      have hg1 := HG1.out
      have hfine : Tk.Fine n s.T (u0 + s.r) := ⟨fun i hi => (hg1.2.2.1 i hi).1, fun i hi => ⟨(hg1.2.2.1 i hi).2.1, (hg1.2.2.1 i hi).2.2.1⟩, by omega, by have := hg1.1; omega⟩
      have N2 := Lib.hid (sched_next T1.out hfine (by omega) cap 0 ⟨by omega, by omega⟩)
      obtain ⟨y, ey⟩ : ∃ y, y = Tk.next n s.T (u0 + s.r) 0 := ⟨_, rfl⟩
      obtain ⟨op, eop⟩ : ∃ y, y = Tk.open' s.T n := ⟨_, rfl⟩
      rw [← ey] at N2
      have EOP := Lib.hid eop
      clear hg1 hfine ey eop
      go_wp2_with fail
      (with_reducible refine N2.out.mono ?_)
      rintro e w5 ⟨rfl, hb5⟩
      have T5 := Lib.hid (T1.out.below hb5)
      have R5 := Lib.hid (R1.out.below hb5)
      have O5 := Lib.hid (sched_open T5.out (by omega) cap)
      rw [← EOP.out] at O5
      have z2 : w5.frozen? ⟨w.heap.size + 2, 2, none⟩ = false := frozen_of_row _ _ _ _ _ R5.out.run.h2
      have y2 : w5.cell? ⟨w.heap.size + 2, 2, none⟩ = some (.bool false) := by rw [cell_of_row _ _ _ _ _ _ R5.out.run.h2]; rfl
      clear hb5 T1 R1 N2
      by_cases hy : y < 0
      · have hdy : decide (y < 0) = true := decide_eq_true hy
        by_cases hop : 0 < op
        · have hdo : decide (0 < op) = true := decide_eq_true hop
          have h6 : (w5.setCell ⟨w.heap.size + 2, 2, none⟩ (.bool true)).heap[w.heap.size + 2]? = some (.cells #[.int .i64 (s.r : Nat), .slice (some ⟨w.heap.size + 1, 0, none⟩) n n, .bool true] 81 (0, 0)) := by rw [heap_setCell_same _ _ _ _ _ _ R5.out.run.h2]; rfl
          have h60 : (w5.setCell ⟨w.heap.size + 2, 2, none⟩ (.bool true)).heap[w.heap.size]? = some (.cells #[.int .i64 0, .slice none 0 0, .bool false] 81 (0, 0)) := (Below.heap_setCell _ _ _ _ (by show w.heap.size ≠ w.heap.size + 2; omega)).trans R5.out.run.h0
          have K6 := Lib.hid h6
          have K60 := Lib.hid h60
          clear h6 h60
          go_wp2_with (first | ((with_reducible refine O5.out.mono ?_); rintro e w6 ⟨rfl, rfl⟩) | ((with_reducible refine wpList_load_rowAs rfl 81 _ rfl ((w.heap.size + 2)) ?_ 81 #[.int .i64 (s.r : Nat), .slice (some ⟨w.heap.size + 1, 0, none⟩) n n, .bool true] (0, 0) _ 3 ?_ Try.underlying81 rfl (by kernel_rfl) ?_ ?_); exact rfl; exact K6.out; exact rfl) | ((with_reducible refine wpList_store_rowAs rfl 81 _ _ rfl (w.heap.size) #[.int .i64 (s.r : Nat), .slice (some ⟨w.heap.size + 1, 0, none⟩) n n, .bool true] ?_ ?_ 81 #[.int .i64 0, .slice none 0 0, .bool false] 3 ?_ (by kernel_rfl) rfl rfl (by simp [Value.oneCell']) ?_); exact rfl; exact rfl; exact K60.out))
          have hT8 := (R5.out.run.turned.setCell (b := w.heap.size + 2) (j := 2) (.bool true) (fun h => by omega)).trans (turned_row27 _ w.heap.size #[.int .i64 (s.r : Nat), .slice (some ⟨w.heap.size + 1, 0, none⟩) n n, .bool true]) (fun k hk e => by have e2 : k = w.heap.size := e; omega)
          have h7 : ((w5.setCell ⟨w.heap.size + 2, 2, none⟩ (.bool true)).setRow w.heap.size #[.int .i64 (s.r : Nat), .slice (some ⟨w.heap.size + 1, 0, none⟩) n n, .bool true]).heap[bl]? = some (.cells #[.int .i64 (s.r : Nat), .int .i64 most] 95 (0, 0)) := (setRow_other _ _ _ _ (by omega)).trans ((Below.heap_setCell _ _ _ _ (by show bl ≠ w.heap.size + 2; omega)).trans R5.out.look)
          refine bodyPost_ret (v := .agg #[.int .i64 (s.r : Nat), .slice (some ⟨w.heap.size + 1, 0, none⟩) n n, .bool true]) ?_ ?_ ?_
          · exact results_cell_row rfl _ _ w.heap.size 81 #[.int .i64 (s.r : Nat), .slice (some ⟨w.heap.size + 1, 0, none⟩) n n, .bool true] (0, 0) _ rfl (setRow_heap _ _ _ _ _ _ K60.out) Try.underlying81 rfl (by kernel_rfl)
          · rfl
          rw [HL.out]
          exact ⟨⟨true, rfl⟩, hT8, h7⟩
        · have hdo : decide (0 < op) = false := decide_eq_false hop
          have h6 : (w5.setCell ⟨w.heap.size + 2, 2, none⟩ (.bool false)).heap[w.heap.size + 2]? = some (.cells #[.int .i64 (s.r : Nat), .slice (some ⟨w.heap.size + 1, 0, none⟩) n n, .bool false] 81 (0, 0)) := by rw [heap_setCell_same _ _ _ _ _ _ R5.out.run.h2]; rfl
          have h60 : (w5.setCell ⟨w.heap.size + 2, 2, none⟩ (.bool false)).heap[w.heap.size]? = some (.cells #[.int .i64 0, .slice none 0 0, .bool false] 81 (0, 0)) := (Below.heap_setCell _ _ _ _ (by show w.heap.size ≠ w.heap.size + 2; omega)).trans R5.out.run.h0
          have K6 := Lib.hid h6
          have K60 := Lib.hid h60
          clear h6 h60
          go_wp2_with (first | ((with_reducible refine O5.out.mono ?_); rintro e w6 ⟨rfl, rfl⟩) | ((with_reducible refine wpList_load_rowAs rfl 81 _ rfl ((w.heap.size + 2)) ?_ 81 #[.int .i64 (s.r : Nat), .slice (some ⟨w.heap.size + 1, 0, none⟩) n n, .bool false] (0, 0) _ 3 ?_ Try.underlying81 rfl (by kernel_rfl) ?_ ?_); exact rfl; exact K6.out; exact rfl) | ((with_reducible refine wpList_store_rowAs rfl 81 _ _ rfl (w.heap.size) #[.int .i64 (s.r : Nat), .slice (some ⟨w.heap.size + 1, 0, none⟩) n n, .bool false] ?_ ?_ 81 #[.int .i64 0, .slice none 0 0, .bool false] 3 ?_ (by kernel_rfl) rfl rfl (by simp [Value.oneCell']) ?_); exact rfl; exact rfl; exact K60.out))
          have hT8 := (R5.out.run.turned.setCell (b := w.heap.size + 2) (j := 2) (.bool false) (fun h => by omega)).trans (turned_row27 _ w.heap.size #[.int .i64 (s.r : Nat), .slice (some ⟨w.heap.size + 1, 0, none⟩) n n, .bool false]) (fun k hk e => by have e2 : k = w.heap.size := e; omega)
          have h7 : ((w5.setCell ⟨w.heap.size + 2, 2, none⟩ (.bool false)).setRow w.heap.size #[.int .i64 (s.r : Nat), .slice (some ⟨w.heap.size + 1, 0, none⟩) n n, .bool false]).heap[bl]? = some (.cells #[.int .i64 (s.r : Nat), .int .i64 most] 95 (0, 0)) := (setRow_other _ _ _ _ (by omega)).trans ((Below.heap_setCell _ _ _ _ (by show bl ≠ w.heap.size + 2; omega)).trans R5.out.look)
          refine bodyPost_ret (v := .agg #[.int .i64 (s.r : Nat), .slice (some ⟨w.heap.size + 1, 0, none⟩) n n, .bool false]) ?_ ?_ ?_
          · exact results_cell_row rfl _ _ w.heap.size 81 #[.int .i64 (s.r : Nat), .slice (some ⟨w.heap.size + 1, 0, none⟩) n n, .bool false] (0, 0) _ rfl (setRow_heap _ _ _ _ _ _ K60.out) Try.underlying81 rfl (by kernel_rfl)
          · rfl
          rw [HL.out]
          exact ⟨⟨false, rfl⟩, hT8, h7⟩
      · have hdy : decide (y < 0) = false := decide_eq_false hy
        have h6 : (w5.setCell ⟨w.heap.size + 2, 2, none⟩ (.bool false)).heap[w.heap.size + 2]? = some (.cells #[.int .i64 (s.r : Nat), .slice (some ⟨w.heap.size + 1, 0, none⟩) n n, .bool false] 81 (0, 0)) := by rw [heap_setCell_same _ _ _ _ _ _ R5.out.run.h2]; rfl
        have h60 : (w5.setCell ⟨w.heap.size + 2, 2, none⟩ (.bool false)).heap[w.heap.size]? = some (.cells #[.int .i64 0, .slice none 0 0, .bool false] 81 (0, 0)) := (Below.heap_setCell _ _ _ _ (by show w.heap.size ≠ w.heap.size + 2; omega)).trans R5.out.run.h0
        have K6 := Lib.hid h6
        have K60 := Lib.hid h60
        clear h6 h60
        go_wp2_with (first | ((with_reducible refine O5.out.mono ?_); rintro e w6 ⟨rfl, rfl⟩) | ((with_reducible refine wpList_load_rowAs rfl 81 _ rfl ((w.heap.size + 2)) ?_ 81 #[.int .i64 (s.r : Nat), .slice (some ⟨w.heap.size + 1, 0, none⟩) n n, .bool false] (0, 0) _ 3 ?_ Try.underlying81 rfl (by kernel_rfl) ?_ ?_); exact rfl; exact K6.out; exact rfl) | ((with_reducible refine wpList_store_rowAs rfl 81 _ _ rfl (w.heap.size) #[.int .i64 (s.r : Nat), .slice (some ⟨w.heap.size + 1, 0, none⟩) n n, .bool false] ?_ ?_ 81 #[.int .i64 0, .slice none 0 0, .bool false] 3 ?_ (by kernel_rfl) rfl rfl (by simp [Value.oneCell']) ?_); exact rfl; exact rfl; exact K60.out))
        have hT8 := (R5.out.run.turned.setCell (b := w.heap.size + 2) (j := 2) (.bool false) (fun h => by omega)).trans (turned_row27 _ w.heap.size #[.int .i64 (s.r : Nat), .slice (some ⟨w.heap.size + 1, 0, none⟩) n n, .bool false]) (fun k hk e => by have e2 : k = w.heap.size := e; omega)
        have h7 : ((w5.setCell ⟨w.heap.size + 2, 2, none⟩ (.bool false)).setRow w.heap.size #[.int .i64 (s.r : Nat), .slice (some ⟨w.heap.size + 1, 0, none⟩) n n, .bool false]).heap[bl]? = some (.cells #[.int .i64 (s.r : Nat), .int .i64 most] 95 (0, 0)) := (setRow_other _ _ _ _ (by omega)).trans ((Below.heap_setCell _ _ _ _ (by show bl ≠ w.heap.size + 2; omega)).trans R5.out.look)
        refine bodyPost_ret (v := .agg #[.int .i64 (s.r : Nat), .slice (some ⟨w.heap.size + 1, 0, none⟩) n n, .bool false]) ?_ ?_ ?_
        · exact results_cell_row rfl _ _ w.heap.size 81 #[.int .i64 (s.r : Nat), .slice (some ⟨w.heap.size + 1, 0, none⟩) n n, .bool false] (0, 0) _ rfl (setRow_heap _ _ _ _ _ _ K60.out) Try.underlying81 rfl (by kernel_rfl)
        · rfl
        rw [HL.out]
        exact ⟨⟨false, rfl⟩, hT8, h7⟩
end
end Go.Proofs.Ytldhbgefpfmkmaa
