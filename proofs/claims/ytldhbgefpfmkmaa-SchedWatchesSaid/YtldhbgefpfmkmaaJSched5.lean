/- Layer 27: a run, walked. -/
import Derived.Test.YtldhbgefpfmkmaaJSched4
namespace Go.Proofs.Ytldhbgefpfmkmaa
open Go.ChangeShapes Go.WideShapes Go.ChangeAt Go.RowKit

theorem Sl.turnedG {S : Nat → Prop} {w w' : World} {p : Option Addr} {n sz : Nat} {f : Nat → Value} (h : Sl w p n sz f) (ht : Turned S w w') (hp : ∀ ad, p = some ad → ¬ S ad.block) : Sl w' p n sz f := by
  rcases h with h0 | ⟨b', off, e, hb, hc⟩
  · exact .inl h0
  · have h1 := ht.block b' hb (hp _ e)
    refine .inr ⟨b', off, e, Nat.lt_of_lt_of_le hb ht.size, fun j hj => ?_⟩
    rw [← hc j hj]
    exact World.cell?_of_block h1
theorem Tasks.turned {w w' : World} {q : Option Addr} {n : Nat} {bs : Nat → Option Nat} {T : Nat → Toy} {c : Nat} {used : Int} (h : Tasks w q n bs T c used) {S : Nat → Prop} (ht : Turned S w w') (hS : ∀ k, S k → ¬ Tk.of n bs c k ∧ ∀ ad, q = some ad → ad.block ≠ k) : Tasks w' q n bs T c used :=
  ⟨Sl.turnedG h.sl ht (fun ad had hk => (hS _ hk).2 ad had rfl), fun i b hi e => (ht.block _ (lt_of_heap (h.toy i b hi e)) (fun hk => (hS _ hk).1 (.inr ⟨i, hi, e⟩))).trans (h.toy i b hi e), (ht.block _ (lt_of_heap h.clock) (fun hk => (hS _ hk).1 (.inl rfl))).trans h.clock, h.apart, h.off, h.offc, h.nil⟩
theorem turned_row27 (w : World) (b : Nat) (cs : Array Value) : Turned (fun k => k = b) w (w.setRow b cs) := ⟨rfl, rfl, rfl, by simp, fun k hk hn => setRow_other w b k cs hn⟩
theorem func27_neq (w : World) : (binOp .neq 97 (.func (.func 88) #[] #[]) .nilFunc).run Try.prog w = .ok (.bool true) w := by kernel_rfl
theorem intInfo27 : (Try.prog.info? 3).map (fun i => (i.zero, i.size, i.bytes)) = some (some (.int .i64 0), 1, 8) := by kernel_rfl
theorem run1_true (k : Int) (w : World) : Calls Try.prog 88 #[.int .i64 k] w fun e w' => e = .returned (.bool true) ∧ w = w' := by
  go_enter Try.func88, Try.ntmps88
  go_wp2
  go_ret
  exact ⟨rfl, rfl⟩

section
variable {w : World} {q : Option Addr} {n : Nat} {bs : Nat → Option Nat} {T : Nat → Toy} {c : Nat}
set_option maxHeartbeats 8000000 in
set_option maxRecDepth 100000 in
theorem sched_watch (u0 : Nat) (h : Tasks w q n bs T c u0) (hT : ∀ i, i < n → (T i).In ∧ 0 ≤ (T i).phase ∧ (T i).phase ≤ 1000) (hn : n ≤ 20) (hu : u0 ≤ 50000) (cap : Nat) (pq : Option Addr) (m pc : Nat) (P : List Int) (hP : P.length = m) (hm : m ≤ 1000) (hPI : ∀ x ∈ P, I64 x) (hs : Ints .i64 w pq P) (hpq : 0 < m → ∀ ad, pq = some ad → ¬ Tk.of n bs c ad.block) (hqb : ∀ k, w.heap.size ≤ k → ∀ ad, q = some ad → ad.block ≠ k) :
    Calls Try.prog 48 #[.slice q n cap, .slice pq m pc, .func (.func 88) #[] #[]] w fun e w' => e = .returned (.agg #[.int .i64 ((Tk.at n u0 T P m).r : Nat), .slice (some ⟨w.heap.size + 1, 0, none⟩) n n, .bool (Tk.stuck n (Tk.at n u0 T P m).T (u0 + (Tk.at n u0 T P m).r))]) ∧
      Tasks w' q n bs (Tk.at n u0 T P m).T c (u0 + (Tk.at n u0 T P m).r) ∧ Turned (Tk.of n bs c) w w' ∧ w'.heap[w.heap.size + 1]? = some (.cells (intRow (Tk.at n u0 T P m).st) 3 (0, 0)) := by
  have HG := Lib.hid (fun k => Tk.good (u0 := u0) hT P k)
  have HST := Lib.hid (fun k => Tk.stays (n := n) (u0 := u0) (T := T) (P := P) (k := k))
  have HNX := Lib.hid (fun k => show Tk.at n u0 T P (k + 1) = Tk.step n u0 (P[k]?.getD 0) (Tk.at n u0 T P k) from rfl)
  have HZ : Hid (Tk.at n u0 T P 0 = ⟨T, 0, List.replicate n 0, false⟩) := rfl
  have HLT := Lib.hid h.lt
  have H := Lib.hid h
  have HQB := Lib.hid hqb
  have HS := Lib.hid hs
  have HPQ := Lib.hid hpq
  have EN := Lib.hid hP
  have HPI := Lib.hid hPI
  have HR1 := Lib.hid run1_true
  obtain ⟨F, eF⟩ : ∃ F, F = Tk.at n u0 T P := ⟨_, rfl⟩
  simp only [← eF] at HG HST HNX HZ ⊢
  have R3 : Hid (RunAt (Tk.of n bs c) w (((w.alloc (.cells #[.int .i64 0, .slice none 0 0, .bool false] 81)).alloc (.cells (intRow (List.replicate n 0)) 3)).alloc (.cells #[.int .i64 0, .slice (some ⟨w.heap.size + 1, 0, none⟩) n n, .bool false] 81)) n (List.replicate n 0) 0) := by
    have hM : Mem w _ _ := (((Mem.start w).alloc (.cells #[.int .i64 0, .slice none 0 0, .bool false] 81)).allocAs (w.heap.size + 1) (.cells (intRow (List.replicate n 0)) 3) (by simp)).allocAs (w.heap.size + 2) (.cells #[.int .i64 0, .slice (some ⟨w.heap.size + 1, 0, none⟩) n n, .bool false] 81) (by simp)
    exact ⟨Turned.of_below hM.below, hM.heap 0 rfl, hM.heap 1 rfl, hM.heap 2 rfl⟩
  have T3 : Hid (Tasks (((w.alloc (.cells #[.int .i64 0, .slice none 0 0, .bool false] 81)).alloc (.cells (intRow (List.replicate n 0)) 3)).alloc (.cells #[.int .i64 0, .slice (some ⟨w.heap.size + 1, 0, none⟩) n n, .bool false] 81)) q n bs T c u0) := h.below (below3 w _ _ _)
  have hn100 : n ≤ 100000 := by omega
  have hfn := func27_neq
  clear eF h hs hpq hP hT hPI hqb
  go_enter Try.func48, Try.ntmps48
  go_wp2_with (at_make; refine wpList_make_ints rfl _ _ 74 rfl 3 Try.underlying74 intInfo27 n rfl rfl hn100 ?_)
  go_loopw [17] (fun i wr => ∃ k : Nat, k ≤ m ∧ i = .int .i64 (k : Nat) ∧ (F k).stop = false ∧ Tasks wr q n bs (F k).T c (u0 + (F k).r) ∧ RunAt (Tk.of n bs c) w wr n (F k).st (F k).r) (fun i _ => m - (intOf i).toNat)
  case atStart => exact ⟨0, by omega, rfl, by rw [HZ.out], by rw [HZ.out]; exact T3.out, by rw [HZ.out]; exact R3.out⟩
  case round =>
    obtain ⟨k, hk, rfl, hsp, hTs, hR⟩ := hrel
    clear R3 T3 HZ
    by_cases hlt : k < m
    · have hkl : k < P.length := by have := EN.out; omega
      have hi : Ints .i64 wr pq P := (Sl.turnedG HS.out hR.turned (HPQ.out (by omega)) : _)
      obtain ⟨bq, off, e0, hbw, hcell⟩ := Sl.pos hi (by omega)
      subst e0
      have cp := hcell k (by omega)
      have hpi : I64 (P[k]?.getD 0) := by rw [List.getElem?_eq_getElem hkl]; exact HPI.out _ (List.getElem_mem _)
      have hg := HG.out k
      have hg2 := HG.out (k + 1)
      have hnx := HNX.out k
      obtain ⟨pk, epk⟩ : ∃ x, x = P[k]?.getD 0 := ⟨_, rfl⟩
      change wr.cell? ⟨bq, off + k, none⟩ = some (.int .i64 (P[k]?.getD 0)) at cp
      rw [← epk] at cp hpi hnx
      obtain ⟨s, es⟩ : ∃ s, s = F k := ⟨_, rfl⟩
      obtain ⟨s2, es2⟩ : ∃ s, s = F (k + 1) := ⟨_, rfl⟩
      have ES2 := Lib.hid es2
      rw [← es] at hg hnx hsp hTs hR
      rw [← es2] at hg2 hnx
      have hfine : Tk.Fine n s.T (u0 + s.r) := ⟨fun i hi => (hg.2.2.1 i hi).1, fun i hi => ⟨(hg.2.2.1 i hi).2.1, (hg.2.2.1 i hi).2.2.1⟩, by omega, by have := hg.1; omega⟩
      have N1 := Lib.hid (sched_next hTs hfine (by omega) cap pk hpi)
      unfold Tk.step at hnx
      rw [if_neg (by rw [hsp]; simp)] at hnx
      obtain ⟨x, ex⟩ : ∃ x, x = Tk.next n s.T (u0 + s.r) pk := ⟨_, rfl⟩
      rw [← ex] at N1 hnx
      have EX := Lib.hid ex
      have HTS := Lib.hid hTs
      have HR := Lib.hid hR
      have HG1 := Lib.hid hg
      have HG2 := Lib.hid hg2
      have hkn : (k : Int) < m := by omega
      have HUP := Lib.hid (HST.out (k + 1))
      by_cases hx : x < 0
      · rw [if_pos hx] at hnx
        have hfin : F m = ⟨s.T, s.r, s.st, true⟩ := by
          have h1 : (F (k + 1)).stop = true := by rw [← ES2.out, hnx]
          have h2 := HUP.out h1 (m - (k + 1))
          rw [show k + 1 + (m - (k + 1)) = m by omega] at h2
          rw [h2, ← ES2.out, hnx]
        have HFIN := Lib.hid hfin
        clear hnx hfin ex es es2 epk hpi hg hg2 hcell hi hTs hR hsp hfine
        go_wp2_with fail
        (with_reducible refine N1.out.mono ?_)
        rintro e w1 ⟨rfl, hb1⟩
        have T1 := Lib.hid (HTS.out.below hb1)
        have R1 := Lib.hid (HR.out.below hb1)
        clear hb1 HTS HR N1
        have hg1 := HG1.out
        have hfine : Tk.Fine n s.T (u0 + s.r) := ⟨fun i hi => (hg1.2.2.1 i hi).1, fun i hi => ⟨(hg1.2.2.1 i hi).2.1, (hg1.2.2.1 i hi).2.2.1⟩, by omega, by have := hg1.1; omega⟩
        have N2 := Lib.hid (sched_next T1.out hfine (by omega) cap 0 ⟨by omega, by omega⟩)
        have hstk : Tk.stuck n s.T (u0 + s.r) = (decide (Tk.next n s.T (u0 + s.r) 0 < 0) && decide (0 < Tk.open' s.T n)) := rfl
        obtain ⟨y, ey⟩ : ∃ y, y = Tk.next n s.T (u0 + s.r) 0 := ⟨_, rfl⟩
        obtain ⟨op, eop⟩ : ∃ y, y = Tk.open' s.T n := ⟨_, rfl⟩
        rw [← ey] at N2
        rw [← ey, ← eop] at hstk
        obtain ⟨stk, est⟩ : ∃ y, y = Tk.stuck n s.T (u0 + s.r) := ⟨_, rfl⟩
        rw [← est] at hstk
        have EST := Lib.hid est
        have EOP := Lib.hid eop
        have HSTK := Lib.hid hstk
        clear hg1 hfine ey eop est hstk
        go_wp2_with fail
        (with_reducible refine N2.out.mono ?_)
        rintro e w5 ⟨rfl, hb5⟩
        have T5 := Lib.hid (T1.out.below hb5)
        have R5 := Lib.hid (R1.out.below hb5)
        have O5 := Lib.hid (sched_open T5.out (by omega) cap)
        rw [← EOP.out] at O5
        have z2 : w5.frozen? ⟨w.heap.size + 2, 2, none⟩ = false := frozen_of_row _ _ _ _ _ R5.out.h2
        have y2 : w5.cell? ⟨w.heap.size + 2, 2, none⟩ = some (.bool false) := by rw [cell_of_row _ _ _ _ _ _ R5.out.h2]; rfl
        have hno : ∀ b', w.heap.size ≤ b' → ¬ Tk.of n bs c b' := fun b' hb' hh => by have := HLT.out b' hh; omega
        clear hb5 T1 R1 N2
        by_cases hy : y < 0
        · by_cases hop : 0 < op
          · have hk1 : stk = true := by rw [HSTK.out, decide_eq_true hy, decide_eq_true hop]; rfl
            subst hk1
            have h6 : (w5.setCell ⟨w.heap.size + 2, 2, none⟩ (.bool true)).heap[w.heap.size + 2]? = some (.cells #[.int .i64 (s.r : Nat), .slice (some ⟨w.heap.size + 1, 0, none⟩) n n, .bool true] 81 (0, 0)) := by rw [heap_setCell_same _ _ _ _ _ _ R5.out.h2]; rfl
            have h60 : (w5.setCell ⟨w.heap.size + 2, 2, none⟩ (.bool true)).heap[w.heap.size]? = some (.cells #[.int .i64 0, .slice none 0 0, .bool false] 81 (0, 0)) := (Below.heap_setCell _ _ _ _ (by show w.heap.size ≠ w.heap.size + 2; omega)).trans R5.out.h0
            have K6 := Lib.hid h6
            have K60 := Lib.hid h60
            clear h6 h60
            go_wp2_with (first | ((with_reducible refine O5.out.mono ?_); rintro e w6 ⟨rfl, rfl⟩) | ((with_reducible refine wpList_load_rowAs rfl 81 _ rfl ((w.heap.size + 2)) ?_ 81 #[.int .i64 (s.r : Nat), .slice (some ⟨w.heap.size + 1, 0, none⟩) n n, .bool true] (0, 0) _ 3 ?_ Try.underlying81 rfl (by kernel_rfl) ?_ ?_); exact rfl; exact K6.out; exact rfl) | ((with_reducible refine wpList_store_rowAs rfl 81 _ _ rfl (w.heap.size) #[.int .i64 (s.r : Nat), .slice (some ⟨w.heap.size + 1, 0, none⟩) n n, .bool true] ?_ ?_ 81 #[.int .i64 0, .slice none 0 0, .bool false] 3 ?_ (by kernel_rfl) rfl rfl (by simp [Value.oneCell']) ?_); exact rfl; exact rfl; exact K60.out))
            have hT9 : Turned (fun k => w.heap.size ≤ k) w5 ((w5.setCell ⟨w.heap.size + 2, 2, none⟩ (.bool true)).setRow w.heap.size #[.int .i64 (s.r : Nat), .slice (some ⟨w.heap.size + 1, 0, none⟩) n n, .bool true]) := (Turned.refl.setCell _ (fun _ => by omega)).trans (turned_row27 _ _ _) (fun k _ e => by have e2 : k = w.heap.size := e; omega)
            have hT8 := (R5.out.turned.setCell (b := w.heap.size + 2) (j := 2) (.bool true) (fun h => by omega)).trans (turned_row27 _ w.heap.size #[.int .i64 (s.r : Nat), .slice (some ⟨w.heap.size + 1, 0, none⟩) n n, .bool true]) (fun k hk e => by have e2 : k = w.heap.size := e; omega)
            have hT7 := T5.out.turned hT9 (fun k hk => ⟨hno k hk, HQB.out k hk⟩)
            have h7 : ((w5.setCell ⟨w.heap.size + 2, 2, none⟩ (.bool true)).setRow w.heap.size #[.int .i64 (s.r : Nat), .slice (some ⟨w.heap.size + 1, 0, none⟩) n n, .bool true]).heap[w.heap.size + 1]? = some (.cells (intRow s.st) 3 (0, 0)) := (setRow_other _ _ _ _ (by omega)).trans ((Below.heap_setCell _ _ _ _ (by show w.heap.size + 1 ≠ w.heap.size + 2; omega)).trans R5.out.h1)
            refine bodyPost_ret (v := .agg #[.int .i64 (s.r : Nat), .slice (some ⟨w.heap.size + 1, 0, none⟩) n n, .bool true]) ?_ ?_ ?_
            · exact results_cell_row rfl _ _ w.heap.size 81 #[.int .i64 (s.r : Nat), .slice (some ⟨w.heap.size + 1, 0, none⟩) n n, .bool true] (0, 0) _ rfl (setRow_heap _ _ _ _ _ _ K60.out) Try.underlying81 rfl (by kernel_rfl)
            · rfl
            rw [HFIN.out]
            exact ⟨by simp only [← EST.out], hT7, hT8, h7⟩
          · have hk1 : stk = false := by rw [HSTK.out, decide_eq_true hy, decide_eq_false hop]; rfl
            have hdo : decide (0 < op) = false := decide_eq_false hop
            subst hk1
            have h6 : (w5.setCell ⟨w.heap.size + 2, 2, none⟩ (.bool false)).heap[w.heap.size + 2]? = some (.cells #[.int .i64 (s.r : Nat), .slice (some ⟨w.heap.size + 1, 0, none⟩) n n, .bool false] 81 (0, 0)) := by rw [heap_setCell_same _ _ _ _ _ _ R5.out.h2]; rfl
            have h60 : (w5.setCell ⟨w.heap.size + 2, 2, none⟩ (.bool false)).heap[w.heap.size]? = some (.cells #[.int .i64 0, .slice none 0 0, .bool false] 81 (0, 0)) := (Below.heap_setCell _ _ _ _ (by show w.heap.size ≠ w.heap.size + 2; omega)).trans R5.out.h0
            have K6 := Lib.hid h6
            have K60 := Lib.hid h60
            clear h6 h60
            go_wp2_with (first | ((with_reducible refine O5.out.mono ?_); rintro e w6 ⟨rfl, rfl⟩) | ((with_reducible refine wpList_load_rowAs rfl 81 _ rfl ((w.heap.size + 2)) ?_ 81 #[.int .i64 (s.r : Nat), .slice (some ⟨w.heap.size + 1, 0, none⟩) n n, .bool false] (0, 0) _ 3 ?_ Try.underlying81 rfl (by kernel_rfl) ?_ ?_); exact rfl; exact K6.out; exact rfl) | ((with_reducible refine wpList_store_rowAs rfl 81 _ _ rfl (w.heap.size) #[.int .i64 (s.r : Nat), .slice (some ⟨w.heap.size + 1, 0, none⟩) n n, .bool false] ?_ ?_ 81 #[.int .i64 0, .slice none 0 0, .bool false] 3 ?_ (by kernel_rfl) rfl rfl (by simp [Value.oneCell']) ?_); exact rfl; exact rfl; exact K60.out))
            have hT9 : Turned (fun k => w.heap.size ≤ k) w5 ((w5.setCell ⟨w.heap.size + 2, 2, none⟩ (.bool false)).setRow w.heap.size #[.int .i64 (s.r : Nat), .slice (some ⟨w.heap.size + 1, 0, none⟩) n n, .bool false]) := (Turned.refl.setCell _ (fun _ => by omega)).trans (turned_row27 _ _ _) (fun k _ e => by have e2 : k = w.heap.size := e; omega)
            have hT8 := (R5.out.turned.setCell (b := w.heap.size + 2) (j := 2) (.bool false) (fun h => by omega)).trans (turned_row27 _ w.heap.size #[.int .i64 (s.r : Nat), .slice (some ⟨w.heap.size + 1, 0, none⟩) n n, .bool false]) (fun k hk e => by have e2 : k = w.heap.size := e; omega)
            have hT7 := T5.out.turned hT9 (fun k hk => ⟨hno k hk, HQB.out k hk⟩)
            have h7 : ((w5.setCell ⟨w.heap.size + 2, 2, none⟩ (.bool false)).setRow w.heap.size #[.int .i64 (s.r : Nat), .slice (some ⟨w.heap.size + 1, 0, none⟩) n n, .bool false]).heap[w.heap.size + 1]? = some (.cells (intRow s.st) 3 (0, 0)) := (setRow_other _ _ _ _ (by omega)).trans ((Below.heap_setCell _ _ _ _ (by show w.heap.size + 1 ≠ w.heap.size + 2; omega)).trans R5.out.h1)
            refine bodyPost_ret (v := .agg #[.int .i64 (s.r : Nat), .slice (some ⟨w.heap.size + 1, 0, none⟩) n n, .bool false]) ?_ ?_ ?_
            · exact results_cell_row rfl _ _ w.heap.size 81 #[.int .i64 (s.r : Nat), .slice (some ⟨w.heap.size + 1, 0, none⟩) n n, .bool false] (0, 0) _ rfl (setRow_heap _ _ _ _ _ _ K60.out) Try.underlying81 rfl (by kernel_rfl)
            · rfl
            rw [HFIN.out]
            exact ⟨by simp only [← EST.out], hT7, hT8, h7⟩
        · have hk1 : stk = false := by rw [HSTK.out, decide_eq_false hy]; rfl
          have hdy : decide (y < 0) = false := decide_eq_false hy
          subst hk1
          have h6 : (w5.setCell ⟨w.heap.size + 2, 2, none⟩ (.bool false)).heap[w.heap.size + 2]? = some (.cells #[.int .i64 (s.r : Nat), .slice (some ⟨w.heap.size + 1, 0, none⟩) n n, .bool false] 81 (0, 0)) := by rw [heap_setCell_same _ _ _ _ _ _ R5.out.h2]; rfl
          have h60 : (w5.setCell ⟨w.heap.size + 2, 2, none⟩ (.bool false)).heap[w.heap.size]? = some (.cells #[.int .i64 0, .slice none 0 0, .bool false] 81 (0, 0)) := (Below.heap_setCell _ _ _ _ (by show w.heap.size ≠ w.heap.size + 2; omega)).trans R5.out.h0
          have K6 := Lib.hid h6
          have K60 := Lib.hid h60
          clear h6 h60
          go_wp2_with (first | ((with_reducible refine O5.out.mono ?_); rintro e w6 ⟨rfl, rfl⟩) | ((with_reducible refine wpList_load_rowAs rfl 81 _ rfl ((w.heap.size + 2)) ?_ 81 #[.int .i64 (s.r : Nat), .slice (some ⟨w.heap.size + 1, 0, none⟩) n n, .bool false] (0, 0) _ 3 ?_ Try.underlying81 rfl (by kernel_rfl) ?_ ?_); exact rfl; exact K6.out; exact rfl) | ((with_reducible refine wpList_store_rowAs rfl 81 _ _ rfl (w.heap.size) #[.int .i64 (s.r : Nat), .slice (some ⟨w.heap.size + 1, 0, none⟩) n n, .bool false] ?_ ?_ 81 #[.int .i64 0, .slice none 0 0, .bool false] 3 ?_ (by kernel_rfl) rfl rfl (by simp [Value.oneCell']) ?_); exact rfl; exact rfl; exact K60.out))
          have hT9 : Turned (fun k => w.heap.size ≤ k) w5 ((w5.setCell ⟨w.heap.size + 2, 2, none⟩ (.bool false)).setRow w.heap.size #[.int .i64 (s.r : Nat), .slice (some ⟨w.heap.size + 1, 0, none⟩) n n, .bool false]) := (Turned.refl.setCell _ (fun _ => by omega)).trans (turned_row27 _ _ _) (fun k _ e => by have e2 : k = w.heap.size := e; omega)
          have hT8 := (R5.out.turned.setCell (b := w.heap.size + 2) (j := 2) (.bool false) (fun h => by omega)).trans (turned_row27 _ w.heap.size #[.int .i64 (s.r : Nat), .slice (some ⟨w.heap.size + 1, 0, none⟩) n n, .bool false]) (fun k hk e => by have e2 : k = w.heap.size := e; omega)
          have hT7 := T5.out.turned hT9 (fun k hk => ⟨hno k hk, HQB.out k hk⟩)
          have h7 : ((w5.setCell ⟨w.heap.size + 2, 2, none⟩ (.bool false)).setRow w.heap.size #[.int .i64 (s.r : Nat), .slice (some ⟨w.heap.size + 1, 0, none⟩) n n, .bool false]).heap[w.heap.size + 1]? = some (.cells (intRow s.st) 3 (0, 0)) := (setRow_other _ _ _ _ (by omega)).trans ((Below.heap_setCell _ _ _ _ (by show w.heap.size + 1 ≠ w.heap.size + 2; omega)).trans R5.out.h1)
          refine bodyPost_ret (v := .agg #[.int .i64 (s.r : Nat), .slice (some ⟨w.heap.size + 1, 0, none⟩) n n, .bool false]) ?_ ?_ ?_
          · exact results_cell_row rfl _ _ w.heap.size 81 #[.int .i64 (s.r : Nat), .slice (some ⟨w.heap.size + 1, 0, none⟩) n n, .bool false] (0, 0) _ rfl (setRow_heap _ _ _ _ _ _ K60.out) Try.underlying81 rfl (by kernel_rfl)
          · rfl
          rw [HFIN.out]
          exact ⟨by simp only [← EST.out], hT7, hT8, h7⟩
      · rw [if_neg hx] at hnx
        obtain ⟨xn, exn, hxl, hrd⟩ := Tk.next_in (by rw [← EX.out]; exact hx : ¬ Tk.next n s.T (u0 + s.r) pk < 0)
        obtain rfl : x = xn := EX.out.trans exn
        rw [Int.toNat_natCast] at hnx
        have hl1 : ¬ (s.T xn).left < 1 := fun h => by unfold Toy.ready at hrd; rw [if_pos h] at hrd; cases hrd
        cases hb : bs xn with
        | none => exact absurd (hTs.nil xn hxl hb) hl1
        | some b =>
          have hv := hg.2.2.2 xn
          have hlen := hg.2.1
          obtain ⟨v, ev⟩ : ∃ v, v = s.st[xn]?.getD 0 := ⟨_, rfl⟩
          rw [← ev] at hnx hv
          have hr1 := hg.1
          obtain ⟨r, er⟩ : ∃ r, r = s.r := ⟨_, rfl⟩
          have HNX2 := Lib.hid hnx
          have EV := Lib.hid ev
          have ER := Lib.hid er
          rw [← er] at hr1
          have hmm := fun (n : Nat) (w : World) => m_step n b w
          have HL1 := Lib.hid hl1
          have hxn : (xn : Int) < n := by omega
          have HXL := Lib.hid hxl
          have HB := Lib.hid hb
          have HLEN := Lib.hid hlen
          have HTI := Lib.hid (hg.2.2.1 xn hxl).1
          clear hnx hrd exn ex es es2 epk hpi hg hg2 hcell hi hTs hR hsp hfine ev er hl1 hb hlen
          go_wp2_with fail
          (with_reducible refine N1.out.mono ?_)
          rintro e w1 ⟨rfl, hb1⟩
          have hT1 := HTS.out.below hb1
          have T1 := Lib.hid hT1
          have R1 := Lib.hid (HR.out.below hb1)
          obtain ⟨bt, offt, rfl, hbwt, hct⟩ := Sl.pos hT1.sl (by omega)
          have ct := hct xn (by omega)
          change w1.cell? ⟨bt, offt + xn, none⟩ = some (Tk.val (bs xn)) at ct
          rw [HB.out] at ct
          change w1.cell? ⟨bt, offt + xn, none⟩ = some (Value.iface 160 (.pointer (some ⟨b, 0, none⟩))) at ct
          have hrow := hT1.toy xn b HXL.out HB.out
          have SP := Lib.hid (toy_step b c (s.T xn) HTI.out (by have := HL1.out; omega) (u0 + s.r) (by omega) (by have := ER.out; omega) w1 (hT1.off xn b HXL.out HB.out).1 hrow hT1.clock)
          clear hb1 HTS HR N1 hct hT1 hrow hbwt
          go_wp2_with fail
          (with_reducible refine SP.out.mono ?_)
          rintro e w2 ⟨⟨v0, rfl⟩, hw2⟩
          have T2 : Hid (Tasks w2 (some ⟨bt, offt, none⟩) n bs (Tk.less s.T xn) c (u0 + s.r + 1)) := by show Tasks _ _ _ _ _ _ _; rw [hw2]; exact T1.out.step HXL.out HB.out
          have R2 : Hid (RunAt (Tk.of n bs c) w w2 n s.st s.r) := by show RunAt _ _ _ _ _ _; rw [hw2]; exact R1.out.step HLT.out (.inr ⟨xn, HXL.out, HB.out⟩)
          clear hw2 T1 R1 SP ct
          rw [← ER.out] at T2 R2
          have hlx : xn < s.st.length := by have := HLEN.out; have := HXL.out; omega
          have a1 : w2.cell? ⟨w.heap.size + 2, 1, none⟩ = some (.slice (some ⟨w.heap.size + 1, 0, none⟩) n n) := by rw [cell_of_row _ _ _ _ _ _ R2.out.h2]; rfl
          have a2 : w2.cell? ⟨w.heap.size + 1, xn, none⟩ = some (.int .i64 v) := by rw [cell_of_row _ _ _ _ _ _ R2.out.h1, intRow_get _ _ hlx, ← EV.out]
          have a3 : w2.frozen? ⟨w.heap.size + 1, xn, none⟩ = false := frozen_of_row _ _ _ _ _ R2.out.h1
          have h23 : (w2.setCell ⟨w.heap.size + 1, xn, none⟩ (.int .i64 (v + 1))).heap[w.heap.size + 2]? = some (.cells #[.int .i64 r, .slice (some ⟨w.heap.size + 1, 0, none⟩) n n, .bool false] 81 (0, 0)) := (Below.heap_setCell _ _ _ _ (by show w.heap.size + 2 ≠ w.heap.size + 1; omega)).trans R2.out.h2
          have b1 : (w2.setCell ⟨w.heap.size + 1, xn, none⟩ (.int .i64 (v + 1))).cell? ⟨w.heap.size + 2, 0, none⟩ = some (.int .i64 r) := by rw [cell_of_row _ _ _ _ _ _ h23]; rfl
          have b2 : (w2.setCell ⟨w.heap.size + 1, xn, none⟩ (.int .i64 (v + 1))).frozen? ⟨w.heap.size + 2, 0, none⟩ = false := frozen_of_row _ _ _ _ _ h23
          have R4 := Lib.hid (R2.out.incr xn (v + 1) ((r : Int) + 1))
          have hno : ∀ b', w.heap.size ≤ b' → ¬ Tk.of n bs c b' := fun b' hb' hh => by have := HLT.out b' hh; omega
          have hqa := HQB.out
          have T4 := Lib.hid ((T2.out.other (j := xn) (v := .int .i64 (v + 1)) (hno (w.heap.size + 1) (by omega)) (hqa (w.heap.size + 1) (by omega))).other (j := 0) (v := .int .i64 ((r : Int) + 1)) (hno (w.heap.size + 2) (by omega)) (hqa (w.heap.size + 2) (by omega)))
          have c1 : ((w2.setCell ⟨w.heap.size + 1, xn, none⟩ (.int .i64 (v + 1))).setCell ⟨w.heap.size + 2, 0, none⟩ (.int .i64 ((r : Int) + 1))).cell? ⟨w.heap.size + 2, 0, none⟩ = some (.int .i64 ((r : Int) + 1)) := by rw [cell_of_row _ _ _ _ _ _ R4.out.h2]; rfl
          clear h23 hno hqa R2 T2
          go_wp2_with ((with_reducible refine (HR1.out _ _).mono ?_); rintro e w3 ⟨rfl, rfl⟩)
          exact ⟨⟨k + 1, by omega, by go_num, by rw [← ES2.out, HNX2.out], by rw [← ES2.out, HNX2.out]; have := T4.out; simp only [← ER.out] ; rw [show ((u0 : Int) + ((r + 1 : Nat) : Int)) = u0 + r + 1 by omega]; exact this, by rw [← ES2.out, HNX2.out]; have := R4.out; simp only [← ER.out]; rw [show ((r + 1 : Nat) : Int) = r + 1 by omega]; exact this⟩, by simp [intOf]; omega⟩
    · obtain rfl : k = m := by omega
      obtain ⟨s, es⟩ : ∃ s, s = F k := ⟨_, rfl⟩
      have hfin : F k = ⟨s.T, s.r, s.st, s.stop⟩ := es.symm
      have hg := HG.out k
      rw [← es] at hTs hR hg
      have HFIN := Lib.hid hfin
      have HG1 := Lib.hid hg
      have T1 := Lib.hid hTs
      have R1 := Lib.hid hR
      clear hfin es hTs hR hsp hg
      have hg1 := HG1.out
      have hfine : Tk.Fine n s.T (u0 + s.r) := ⟨fun i hi => (hg1.2.2.1 i hi).1, fun i hi => ⟨(hg1.2.2.1 i hi).2.1, (hg1.2.2.1 i hi).2.2.1⟩, by omega, by have := hg1.1; omega⟩
      have N2 := Lib.hid (sched_next T1.out hfine (by omega) cap 0 ⟨by omega, by omega⟩)
      have hstk : Tk.stuck n s.T (u0 + s.r) = (decide (Tk.next n s.T (u0 + s.r) 0 < 0) && decide (0 < Tk.open' s.T n)) := rfl
      obtain ⟨y, ey⟩ : ∃ y, y = Tk.next n s.T (u0 + s.r) 0 := ⟨_, rfl⟩
      obtain ⟨op, eop⟩ : ∃ y, y = Tk.open' s.T n := ⟨_, rfl⟩
      rw [← ey] at N2
      rw [← ey, ← eop] at hstk
      obtain ⟨stk, est⟩ : ∃ y, y = Tk.stuck n s.T (u0 + s.r) := ⟨_, rfl⟩
      rw [← est] at hstk
      have EST := Lib.hid est
      have EOP := Lib.hid eop
      have HSTK := Lib.hid hstk
      clear hg1 hfine ey eop est hstk
      go_wp2_with fail
      (with_reducible refine N2.out.mono ?_)
      rintro e w5 ⟨rfl, hb5⟩
      have T5 := Lib.hid (T1.out.below hb5)
      have R5 := Lib.hid (R1.out.below hb5)
      have O5 := Lib.hid (sched_open T5.out (by omega) cap)
      rw [← EOP.out] at O5
      have z2 : w5.frozen? ⟨w.heap.size + 2, 2, none⟩ = false := frozen_of_row _ _ _ _ _ R5.out.h2
      have y2 : w5.cell? ⟨w.heap.size + 2, 2, none⟩ = some (.bool false) := by rw [cell_of_row _ _ _ _ _ _ R5.out.h2]; rfl
      have hno : ∀ b', w.heap.size ≤ b' → ¬ Tk.of n bs c b' := fun b' hb' hh => by have := HLT.out b' hh; omega
      clear hb5 T1 R1 N2
      by_cases hy : y < 0
      · by_cases hop : 0 < op
        · have hk1 : stk = true := by rw [HSTK.out, decide_eq_true hy, decide_eq_true hop]; rfl
          subst hk1
          have h6 : (w5.setCell ⟨w.heap.size + 2, 2, none⟩ (.bool true)).heap[w.heap.size + 2]? = some (.cells #[.int .i64 (s.r : Nat), .slice (some ⟨w.heap.size + 1, 0, none⟩) n n, .bool true] 81 (0, 0)) := by rw [heap_setCell_same _ _ _ _ _ _ R5.out.h2]; rfl
          have h60 : (w5.setCell ⟨w.heap.size + 2, 2, none⟩ (.bool true)).heap[w.heap.size]? = some (.cells #[.int .i64 0, .slice none 0 0, .bool false] 81 (0, 0)) := (Below.heap_setCell _ _ _ _ (by show w.heap.size ≠ w.heap.size + 2; omega)).trans R5.out.h0
          have K6 := Lib.hid h6
          have K60 := Lib.hid h60
          clear h6 h60
          go_wp2_with (first | ((with_reducible refine O5.out.mono ?_); rintro e w6 ⟨rfl, rfl⟩) | ((with_reducible refine wpList_load_rowAs rfl 81 _ rfl ((w.heap.size + 2)) ?_ 81 #[.int .i64 (s.r : Nat), .slice (some ⟨w.heap.size + 1, 0, none⟩) n n, .bool true] (0, 0) _ 3 ?_ Try.underlying81 rfl (by kernel_rfl) ?_ ?_); exact rfl; exact K6.out; exact rfl) | ((with_reducible refine wpList_store_rowAs rfl 81 _ _ rfl (w.heap.size) #[.int .i64 (s.r : Nat), .slice (some ⟨w.heap.size + 1, 0, none⟩) n n, .bool true] ?_ ?_ 81 #[.int .i64 0, .slice none 0 0, .bool false] 3 ?_ (by kernel_rfl) rfl rfl (by simp [Value.oneCell']) ?_); exact rfl; exact rfl; exact K60.out))
          have hT9 : Turned (fun k => w.heap.size ≤ k) w5 ((w5.setCell ⟨w.heap.size + 2, 2, none⟩ (.bool true)).setRow w.heap.size #[.int .i64 (s.r : Nat), .slice (some ⟨w.heap.size + 1, 0, none⟩) n n, .bool true]) := (Turned.refl.setCell _ (fun _ => by omega)).trans (turned_row27 _ _ _) (fun k _ e => by have e2 : k = w.heap.size := e; omega)
          have hT8 := (R5.out.turned.setCell (b := w.heap.size + 2) (j := 2) (.bool true) (fun h => by omega)).trans (turned_row27 _ w.heap.size #[.int .i64 (s.r : Nat), .slice (some ⟨w.heap.size + 1, 0, none⟩) n n, .bool true]) (fun k hk e => by have e2 : k = w.heap.size := e; omega)
          have hT7 := T5.out.turned hT9 (fun k hk => ⟨hno k hk, HQB.out k hk⟩)
          have h7 : ((w5.setCell ⟨w.heap.size + 2, 2, none⟩ (.bool true)).setRow w.heap.size #[.int .i64 (s.r : Nat), .slice (some ⟨w.heap.size + 1, 0, none⟩) n n, .bool true]).heap[w.heap.size + 1]? = some (.cells (intRow s.st) 3 (0, 0)) := (setRow_other _ _ _ _ (by omega)).trans ((Below.heap_setCell _ _ _ _ (by show w.heap.size + 1 ≠ w.heap.size + 2; omega)).trans R5.out.h1)
          refine bodyPost_ret (v := .agg #[.int .i64 (s.r : Nat), .slice (some ⟨w.heap.size + 1, 0, none⟩) n n, .bool true]) ?_ ?_ ?_
          · exact results_cell_row rfl _ _ w.heap.size 81 #[.int .i64 (s.r : Nat), .slice (some ⟨w.heap.size + 1, 0, none⟩) n n, .bool true] (0, 0) _ rfl (setRow_heap _ _ _ _ _ _ K60.out) Try.underlying81 rfl (by kernel_rfl)
          · rfl
          rw [HFIN.out]
          exact ⟨by simp only [← EST.out], hT7, hT8, h7⟩
        · have hk1 : stk = false := by rw [HSTK.out, decide_eq_true hy, decide_eq_false hop]; rfl
          have hdo : decide (0 < op) = false := decide_eq_false hop
          subst hk1
          have h6 : (w5.setCell ⟨w.heap.size + 2, 2, none⟩ (.bool false)).heap[w.heap.size + 2]? = some (.cells #[.int .i64 (s.r : Nat), .slice (some ⟨w.heap.size + 1, 0, none⟩) n n, .bool false] 81 (0, 0)) := by rw [heap_setCell_same _ _ _ _ _ _ R5.out.h2]; rfl
          have h60 : (w5.setCell ⟨w.heap.size + 2, 2, none⟩ (.bool false)).heap[w.heap.size]? = some (.cells #[.int .i64 0, .slice none 0 0, .bool false] 81 (0, 0)) := (Below.heap_setCell _ _ _ _ (by show w.heap.size ≠ w.heap.size + 2; omega)).trans R5.out.h0
          have K6 := Lib.hid h6
          have K60 := Lib.hid h60
          clear h6 h60
          go_wp2_with (first | ((with_reducible refine O5.out.mono ?_); rintro e w6 ⟨rfl, rfl⟩) | ((with_reducible refine wpList_load_rowAs rfl 81 _ rfl ((w.heap.size + 2)) ?_ 81 #[.int .i64 (s.r : Nat), .slice (some ⟨w.heap.size + 1, 0, none⟩) n n, .bool false] (0, 0) _ 3 ?_ Try.underlying81 rfl (by kernel_rfl) ?_ ?_); exact rfl; exact K6.out; exact rfl) | ((with_reducible refine wpList_store_rowAs rfl 81 _ _ rfl (w.heap.size) #[.int .i64 (s.r : Nat), .slice (some ⟨w.heap.size + 1, 0, none⟩) n n, .bool false] ?_ ?_ 81 #[.int .i64 0, .slice none 0 0, .bool false] 3 ?_ (by kernel_rfl) rfl rfl (by simp [Value.oneCell']) ?_); exact rfl; exact rfl; exact K60.out))
          have hT9 : Turned (fun k => w.heap.size ≤ k) w5 ((w5.setCell ⟨w.heap.size + 2, 2, none⟩ (.bool false)).setRow w.heap.size #[.int .i64 (s.r : Nat), .slice (some ⟨w.heap.size + 1, 0, none⟩) n n, .bool false]) := (Turned.refl.setCell _ (fun _ => by omega)).trans (turned_row27 _ _ _) (fun k _ e => by have e2 : k = w.heap.size := e; omega)
          have hT8 := (R5.out.turned.setCell (b := w.heap.size + 2) (j := 2) (.bool false) (fun h => by omega)).trans (turned_row27 _ w.heap.size #[.int .i64 (s.r : Nat), .slice (some ⟨w.heap.size + 1, 0, none⟩) n n, .bool false]) (fun k hk e => by have e2 : k = w.heap.size := e; omega)
          have hT7 := T5.out.turned hT9 (fun k hk => ⟨hno k hk, HQB.out k hk⟩)
          have h7 : ((w5.setCell ⟨w.heap.size + 2, 2, none⟩ (.bool false)).setRow w.heap.size #[.int .i64 (s.r : Nat), .slice (some ⟨w.heap.size + 1, 0, none⟩) n n, .bool false]).heap[w.heap.size + 1]? = some (.cells (intRow s.st) 3 (0, 0)) := (setRow_other _ _ _ _ (by omega)).trans ((Below.heap_setCell _ _ _ _ (by show w.heap.size + 1 ≠ w.heap.size + 2; omega)).trans R5.out.h1)
          refine bodyPost_ret (v := .agg #[.int .i64 (s.r : Nat), .slice (some ⟨w.heap.size + 1, 0, none⟩) n n, .bool false]) ?_ ?_ ?_
          · exact results_cell_row rfl _ _ w.heap.size 81 #[.int .i64 (s.r : Nat), .slice (some ⟨w.heap.size + 1, 0, none⟩) n n, .bool false] (0, 0) _ rfl (setRow_heap _ _ _ _ _ _ K60.out) Try.underlying81 rfl (by kernel_rfl)
          · rfl
          rw [HFIN.out]
          exact ⟨by simp only [← EST.out], hT7, hT8, h7⟩
      · have hk1 : stk = false := by rw [HSTK.out, decide_eq_false hy]; rfl
        have hdy : decide (y < 0) = false := decide_eq_false hy
        subst hk1
        have h6 : (w5.setCell ⟨w.heap.size + 2, 2, none⟩ (.bool false)).heap[w.heap.size + 2]? = some (.cells #[.int .i64 (s.r : Nat), .slice (some ⟨w.heap.size + 1, 0, none⟩) n n, .bool false] 81 (0, 0)) := by rw [heap_setCell_same _ _ _ _ _ _ R5.out.h2]; rfl
        have h60 : (w5.setCell ⟨w.heap.size + 2, 2, none⟩ (.bool false)).heap[w.heap.size]? = some (.cells #[.int .i64 0, .slice none 0 0, .bool false] 81 (0, 0)) := (Below.heap_setCell _ _ _ _ (by show w.heap.size ≠ w.heap.size + 2; omega)).trans R5.out.h0
        have K6 := Lib.hid h6
        have K60 := Lib.hid h60
        clear h6 h60
        go_wp2_with (first | ((with_reducible refine O5.out.mono ?_); rintro e w6 ⟨rfl, rfl⟩) | ((with_reducible refine wpList_load_rowAs rfl 81 _ rfl ((w.heap.size + 2)) ?_ 81 #[.int .i64 (s.r : Nat), .slice (some ⟨w.heap.size + 1, 0, none⟩) n n, .bool false] (0, 0) _ 3 ?_ Try.underlying81 rfl (by kernel_rfl) ?_ ?_); exact rfl; exact K6.out; exact rfl) | ((with_reducible refine wpList_store_rowAs rfl 81 _ _ rfl (w.heap.size) #[.int .i64 (s.r : Nat), .slice (some ⟨w.heap.size + 1, 0, none⟩) n n, .bool false] ?_ ?_ 81 #[.int .i64 0, .slice none 0 0, .bool false] 3 ?_ (by kernel_rfl) rfl rfl (by simp [Value.oneCell']) ?_); exact rfl; exact rfl; exact K60.out))
        have hT9 : Turned (fun k => w.heap.size ≤ k) w5 ((w5.setCell ⟨w.heap.size + 2, 2, none⟩ (.bool false)).setRow w.heap.size #[.int .i64 (s.r : Nat), .slice (some ⟨w.heap.size + 1, 0, none⟩) n n, .bool false]) := (Turned.refl.setCell _ (fun _ => by omega)).trans (turned_row27 _ _ _) (fun k _ e => by have e2 : k = w.heap.size := e; omega)
        have hT8 := (R5.out.turned.setCell (b := w.heap.size + 2) (j := 2) (.bool false) (fun h => by omega)).trans (turned_row27 _ w.heap.size #[.int .i64 (s.r : Nat), .slice (some ⟨w.heap.size + 1, 0, none⟩) n n, .bool false]) (fun k hk e => by have e2 : k = w.heap.size := e; omega)
        have hT7 := T5.out.turned hT9 (fun k hk => ⟨hno k hk, HQB.out k hk⟩)
        have h7 : ((w5.setCell ⟨w.heap.size + 2, 2, none⟩ (.bool false)).setRow w.heap.size #[.int .i64 (s.r : Nat), .slice (some ⟨w.heap.size + 1, 0, none⟩) n n, .bool false]).heap[w.heap.size + 1]? = some (.cells (intRow s.st) 3 (0, 0)) := (setRow_other _ _ _ _ (by omega)).trans ((Below.heap_setCell _ _ _ _ (by show w.heap.size + 1 ≠ w.heap.size + 2; omega)).trans R5.out.h1)
        refine bodyPost_ret (v := .agg #[.int .i64 (s.r : Nat), .slice (some ⟨w.heap.size + 1, 0, none⟩) n n, .bool false]) ?_ ?_ ?_
        · exact results_cell_row rfl _ _ w.heap.size 81 #[.int .i64 (s.r : Nat), .slice (some ⟨w.heap.size + 1, 0, none⟩) n n, .bool false] (0, 0) _ rfl (setRow_heap _ _ _ _ _ _ K60.out) Try.underlying81 rfl (by kernel_rfl)
        · rfl
        rw [HFIN.out]
        exact ⟨by simp only [← EST.out], hT7, hT8, h7⟩
end
end Go.Proofs.Ytldhbgefpfmkmaa
