/- Layer 27: a run: the reference's. -/
import Derived.Test.YtldhbgefpfmkmaaJSched7
namespace Go.Proofs.Ytldhbgefpfmkmaa
open Go.ChangeShapes Go.WideShapes Go.ChangeAt Go.RowKit

theorem toyInfo : (Try.prog.info? 157).map (fun i => (i.zero, i.size, i.bytes)) = some (some (.agg #[.int .i64 0, .int .i64 0, .int .i64 0]), 3, 24) := by kernel_rfl
def toyVals (n : Nat) (T : Nat → Toy) : List Value := (List.range (n * 3)).map (fun j => Value.int .i64 ((T (j / 3)).get (j % 3)))
def Tk.list (n : Nat) (T : Nat → Toy) : List Toy := (List.range n).map T
theorem toyVals_len (n : Nat) (T : Nat → Toy) : (toyVals n T).length = n * 3 := by simp [toyVals]
theorem toyVals_get (n : Nat) (T : Nat → Toy) (j : Nat) (h : j < n * 3) : (toyVals n T)[j]? = some (.int .i64 ((T (j / 3)).get (j % 3))) := by
  unfold toyVals
  rw [List.getElem?_map, List.getElem?_range h]
  rfl
theorem Tk.list_len (n : Nat) (T : Nat → Toy) : (Tk.list n T).length = n := by simp [Tk.list]
theorem Tk.list_get (n : Nat) (T : Nat → Toy) (i : Nat) (h : i < n) : (Tk.list n T)[i]?.getD default = T i := by
  unfold Tk.list
  rw [List.getElem?_map, List.getElem?_range h]
  rfl
theorem toyVals_congr {n : Nat} {T T' : Nat → Toy} (h : ∀ i, i < n → T i = T' i) : toyVals n T = toyVals n T' := by
  unfold toyVals
  apply List.map_congr_left
  intro j hj
  rw [List.mem_range] at hj
  rw [h (j / 3) (by omega)]
theorem toyVals_less (n : Nat) (T : Nat → Toy) (x : Nat) (_ : x < n) : (toyVals n T).set (x * 3) (.int .i64 ((T x).left - 1)) = toyVals n (Tk.less T x) := by
  apply List.ext_getElem?
  intro j
  by_cases hj : j < n * 3
  · rw [toyVals_get n _ j hj]
    by_cases e : x * 3 = j
    · subst e
      rw [List.getElem?_set_self (by rw [toyVals_len]; exact hj)]
      have e1 : x * 3 / 3 = x := by omega
      have e2 : x * 3 % 3 = 0 := by omega
      rw [e1, e2]
      unfold Tk.less
      rw [if_pos rfl]
      rfl
    · rw [List.getElem?_set_ne e, toyVals_get n _ j hj]
      unfold Tk.less
      split
      · rename_i h
        have h3 : j % 3 = 1 ∨ j % 3 = 2 := by omega
        rcases h3 with h3 | h3 <;> rw [h3] <;> rw [h] <;> rfl
      · rfl
  · rw [List.getElem?_eq_none (by rw [List.length_set, toyVals_len]; omega), List.getElem?_eq_none (by rw [toyVals_len]; omega)]
theorem toys_of_owns {w : World} {B n : Nat} {v : Value} {T : Nat → Toy} (h : Owns w B 3 v n (toyVals n T)) : ∃ p cap, v = .slice p n cap ∧ Toys w p (Tk.list n T) := by
  obtain ⟨p, cap, hv, _, _, hs, _⟩ := h.sl
  refine ⟨p, cap, hv, ?_⟩
  unfold Toys
  rw [Tk.list_len]
  rcases hs with h0 | ⟨b, off, e, hb, hc⟩
  · exact .inl h0
  · refine .inr ⟨b, off, e, hb, fun j hj => ?_⟩
    rw [hc j hj]
    show some ((toyVals n T)[j]?.getD undef) = some (Value.int .i64 (((Tk.list n T)[j / 3]?.getD default).get (j % 3)))
    rw [toyVals_get n T j hj, Tk.list_get n T (j / 3) (by omega)]
    rfl
theorem Toys.news {w : World} {p : Option Addr} {l : List Toy} (h : Toys w p l) : ∀ ad, p = some ad → ∀ j u, (toyVals l.length (fun i => l[i]?.getD default))[j]? = some u → w.cell? (ad.add j) = some u := by
  intro ad hp j u hu
  have hj : j < l.length * 3 := by
    have := (List.getElem?_eq_some_iff.1 hu).1
    rwa [toyVals_len] at this
  rw [toyVals_get _ _ j hj] at hu
  rcases h with h | ⟨b, off, h, _, hc⟩
  · omega
  · rw [hp] at h
    cases h
    have hadd : (⟨b, off, none⟩ : Addr).add j = ⟨b, off + j, none⟩ := by unfold Addr.add; split <;> simp_all
    rw [hadd, hc j hj]
    exact hu
theorem toyVals_one (n : Nat) (T : Nat → Toy) : ∀ u ∈ toyVals n T, u.oneCell' = true := by
  intro u hu
  unfold toyVals at hu
  obtain ⟨j, _, rfl⟩ := List.mem_map.1 hu
  rfl
theorem Tk.found_congr {n : Nat} {T T' : Nat → Toy} (h : ∀ i, i < n → T i = T' i) (hn : 0 < n) (used : Int) (a : Nat) : ∀ k, Tk.found n T used a k = Tk.found n T' used a k
  | 0 => rfl
  | k + 1 => by
    have ih := Tk.found_congr h hn used a k
    show (match Tk.found n T used a k with | some x => some x | none => _) = (match Tk.found n T' used a k with | some x => some x | none => _)
    rw [ih, h _ (Nat.mod_lt _ hn)]
theorem Tk.next_congr {n : Nat} {T T' : Nat → Toy} (h : ∀ i, i < n → T i = T' i) (used pick : Int) : Tk.next n T used pick = Tk.next n T' used pick := by
  rcases Nat.eq_zero_or_pos n with rfl | hn
  · rfl
  · unfold Tk.next
    rw [Tk.found_congr h hn]
theorem Tk.open_congr {T T' : Nat → Toy} : ∀ n, (∀ i, i < n → T i = T' i) → Tk.open' T n = Tk.open' T' n
  | 0, _ => rfl
  | n + 1, h => by
    unfold Tk.open'
    rw [Tk.open_congr n (fun i hi => h i (by omega)), h n (by omega)]
theorem Owns.some_of27 {w : World} {B n sz : Nat} {v : Value} {xs : List Value} (h : Owns w B sz v n xs) (hn : 0 < n) : ∃ g cap, v = .slice (some ⟨g, 0, none⟩) n cap ∧ B ≤ g ∧ g < w.heap.size ∧ n ≤ cap ∧ (∀ j u, xs[j]? = some u → w.cell? ⟨g, j, none⟩ = some u) ∧ (∀ j, j < n * sz → (w.cell? ⟨g, j, none⟩).isSome = true ∧ w.frozen? ⟨g, j, none⟩ = false) := by
  obtain ⟨_, hO⟩ := h
  rcases hO with ⟨_, h0⟩ | ⟨g, cap, h0, h1, h2, h3, h4, h5⟩
  · omega
  · exact ⟨g, cap, h0, h1, h2, h3, h4, fun j hj => h5 j (Nat.lt_of_lt_of_le hj (Nat.mul_le_mul_right sz h3))⟩
theorem Owns.putOne27 {w : World} {B n g cap sz : Nat} {xs : List Value} {p : Option Addr} (h : Owns w B sz (.slice p n cap) n xs) (hg : (Value.slice p n cap).ownBlock = some g) (j : Nat) (u : Value) (hj : j < n * sz) :
    Owns (w.setCell ⟨g, j, none⟩ u) B sz (.slice p n cap) n (xs.set j u) := by
  obtain ⟨hl, h⟩ := h
  refine ⟨by rw [List.length_set]; exact hl, ?_⟩
  rcases h with ⟨h1, h2⟩ | ⟨g', cap', h1, h2, h3, h4, h5, h6⟩
  · subst h2; omega
  · refine .inr ⟨g', cap', h1, h2, by simpa [World.setCell] using h3, h4, ?_, ?_⟩
    · have eg : g = g' := by
        simp only [Value.slice.injEq] at h1
        obtain ⟨rfl, _, _⟩ := h1
        simpa [Value.ownBlock] using hg.symm
      subst eg
      intro k x hk
      by_cases hkj : k = j
      · subst hkj
        have hx : x = u := by
          rw [List.getElem?_set_self (by omega)] at hk
          exact (Option.some.inj hk).symm
        subst hx
        obtain ⟨y, hy⟩ := Option.isSome_iff_exists.1 (h6 k (by simp only [Value.slice.injEq] at h1; obtain ⟨_, _, rfl⟩ := h1; exact Nat.lt_of_lt_of_le hj (Nat.mul_le_mul_right sz h4))).1
        exact World.cell?_setCell_same _ _ _ hy
      · rw [List.getElem?_set_ne (by omega)] at hk
        rw [World.cell?_setCell_other _ _ _ _ (by intro e; injection e with e1 e2; omega)]
        exact h5 k x hk
    · intro k hk
      obtain ⟨a, b⟩ := h6 k hk
      refine ⟨?_, by rw [World.frozen?_setCell]; exact b⟩
      by_cases hx : (⟨g', k, none⟩ : Addr) = ⟨g, j, none⟩
      · obtain ⟨y, hy⟩ := Option.isSome_iff_exists.1 a
        rw [hx] at hy ⊢
        rw [World.cell?_setCell_same _ _ _ hy]
        rfl
      · rw [World.cell?_setCell_other _ _ _ _ (fun e => hx e.symm)]; exact a

section
variable {w : World} {q : Option Addr} {n : Nat} {l : List Toy}
set_option maxHeartbeats 8000000 in
set_option maxRecDepth 100000 in
theorem ref27_run (hs : Toys w q l) (en : l.length = n) (cap : Nat) (hq : q = none → n = 0 ∧ cap = 0) (hT : ∀ i, i < n → (l[i]?.getD default).In ∧ 0 ≤ (l[i]?.getD default).phase ∧ (l[i]?.getD default).phase ≤ 1000) (hn : n ≤ 20) (pq : Option Addr) (m pc : Nat) (P : List Int) (hP : P.length = m) (hm : m ≤ 1000) (hPI : ∀ x ∈ P, I64 x) (hp : Ints .i64 w pq P) :
    Calls Try.prog 40 #[.slice q n cap, .int .i64 0, .slice pq m pc] w fun e w' => ∃ p1 c1, e = .returned (.tuple #[.int .i64 ((Tk.at n 0 (fun i => l[i]?.getD default) P m).r : Nat), .slice (some ⟨w.heap.size, 0, none⟩) n n, .slice p1 n c1]) ∧
      w'.heap[w.heap.size]? = some (.cells (intRow (Tk.at n 0 (fun i => l[i]?.getD default) P m).st) 3 (0, 0)) ∧ Toys w' p1 (Tk.list n (Tk.at n 0 (fun i => l[i]?.getD default) P m).T) ∧ Below w.heap.size w w' := by
  have HG := Lib.hid (fun k => Tk.good (n := n) (u0 := 0) (T := fun i => l[i]?.getD default) hT P k)
  have HST := Lib.hid (fun k => Tk.stays (n := n) (u0 := 0) (T := fun i => l[i]?.getD default) (P := P) (k := k))
  have HNX := Lib.hid (fun k => show Tk.at n 0 (fun i => l[i]?.getD default) P (k + 1) = Tk.step n 0 (P[k]?.getD 0) (Tk.at n 0 (fun i => l[i]?.getD default) P k) from rfl)
  have HZ : Hid (Tk.at n 0 (fun i => l[i]?.getD default) P 0 = ⟨fun i => l[i]?.getD default, 0, List.replicate n 0, false⟩) := rfl
  have HP := Lib.hid hp
  have EP := Lib.hid hP
  have HPI := Lib.hid hPI
  have HNONE := Lib.hid hq
  have HV : Hid (∀ ad, q = some ad → ∀ j u, (toyVals n (fun i => l[i]?.getD default))[j]? = some u → ((w.alloc (.cells (intRow (List.replicate n 0)) 3)).alloc (.cells #[] 157)).cell? (ad.add j) = some u) := by
    have := (hs.below (below2 w (.cells (intRow (List.replicate n 0)) 3) (.cells #[] 157))).news
    rw [en] at this
    exact this
  have HONE := Lib.hid (toyVals_one n (fun i => l[i]?.getD default))
  have HVL := Lib.hid (toyVals_len n (fun i => l[i]?.getD default))
  have O : Hid (Owns ((w.alloc (.cells (intRow (List.replicate n 0)) 3)).alloc (.cells #[] 157)) (w.heap.size + 1) 3 (.slice (some ⟨w.heap.size + 1, 0, none⟩) 0 0) 0 []) :=
    ⟨rfl, .inr ⟨w.heap.size + 1, 0, rfl, Nat.le_refl _, by simp, Nat.le_refl _, fun j u hu => by simp at hu, fun j hj => by simp at hj⟩⟩
  have K0 : Hid (((w.alloc (.cells (intRow (List.replicate n 0)) 3)).alloc (.cells #[] 157)).heap[w.heap.size]? = some (.cells (intRow (List.replicate n 0)) 3 (0, 0))) := heap_2_0 w _ _
  have HB0 := Lib.hid (below2 w (.cells (intRow (List.replicate n 0)) 3) (.cells #[] 157))
  have hn100 : n ≤ 100000 := by omega
  have hsz : w.heap.size + 1 ≤ ((w.alloc (.cells (intRow (List.replicate n 0)) 3)).alloc (.cells #[] 157)).heap.size := by simp
  have hmxl : 0 + n ≤ maxLen := by unfold maxLen; omega
  have hbyt : (0 + n) * 24 ≤ 140737488355328 := by omega
  obtain ⟨F, eF⟩ : ∃ F, F = Tk.at n 0 (fun i => l[i]?.getD default) P := ⟨_, rfl⟩
  simp only [← eF] at HG HST HNX HZ ⊢
  clear eF hs hp hP hPI hq hT en
  go_enter Try.func40, Try.ntmps40
  go_wp2_with (first | (at_make; refine wpList_make_ints rfl _ _ 74 rfl 3 Try.underlying74 intInfo27 n rfl rfl hn100 ?_) | (at_builtin; refine wpList_append_any2 rfl _ _ 73 rfl (w.heap.size + 1) 157 (.agg #[.int .i64 0, .int .i64 0, .int .i64 0]) 3 24 Try.underlying73 toyInfo rfl (by decide) _ _ _ rfl O.out _ _ _ (toyVals n (fun i => l[i]?.getD default)) rfl HVL.out HNONE.out HV.out HONE.out hmxl hbyt hsz ?_; intro u1 x1 ha1 hg1 hw1; have HB1 : Hid (Below w.heap.size w x1) := HB0.out.grown hg1 (by simp; omega) (fun k hk => by have h : some (w.heap.size + 1) = some k := hk; injection h with h; omega); have K1 : Hid (x1.heap[w.heap.size]? = some (.cells (intRow (List.replicate n 0)) 3 (0, 0))) := (hg1.block _ (by simp; omega) (fun e => by have h : some w.heap.size = some (w.heap.size + 1) := e; injection h with h; omega)).trans K0.out; rw [Nat.zero_add, List.nil_append] at ha1; have HA := Lib.hid ha1; obtain ⟨p1, c1, rfl, _, _⟩ := ha1.sl; clear ha1 hg1 hw1 K0 O))
  go_loopw [11, 12] (fun r i wr => ∃ k : Nat, k ≤ m ∧ i = .int .i64 (k : Nat) ∧ r = .int .i64 ((F k).r : Nat) ∧ (F k).stop = false ∧ wr.heap[w.heap.size]? = some (.cells (intRow (F k).st) 3 (0, 0)) ∧ Owns wr (w.heap.size + 1) 3 (.slice p1 n c1) n (toyVals n (F k).T) ∧ Below w.heap.size w wr) (fun _ i _ => m - (intOf i).toNat)
  case atStart => exact ⟨0, by omega, rfl, by rw [HZ.out]; rfl, by rw [HZ.out], by rw [HZ.out]; exact K1.out, by rw [HZ.out]; exact HA.out, HB1.out⟩
  case round =>
    obtain ⟨k, hk, rfl, rfl, hsp, hG, hO, hB⟩ := hrel
    clear HZ K1 HA HB1
    by_cases hlt : k < m
    · have hkl : k < P.length := by have := EP.out; omega
      obtain ⟨bq, off, e0, hbw, hcell⟩ := Sl.pos (Sl.below HP.out hB) (by omega)
      subst e0
      have cp := hcell k (by omega)
      have hpi : I64 (P[k]?.getD 0) := by rw [List.getElem?_eq_getElem hkl]; exact HPI.out _ (List.getElem_mem _)
      have hg := HG.out k
      have hnx := HNX.out k
      obtain ⟨pk, epk⟩ : ∃ x, x = P[k]?.getD 0 := ⟨_, rfl⟩
      change wr.cell? ⟨bq, off + k, none⟩ = some (.int .i64 (P[k]?.getD 0)) at cp
      rw [← epk] at cp hpi hnx
      obtain ⟨s, es⟩ : ∃ s, s = F k := ⟨_, rfl⟩
      obtain ⟨s2, es2⟩ : ∃ s, s = F (k + 1) := ⟨_, rfl⟩
      have ES2 := Lib.hid es2
      rw [← es] at hg hnx hsp hG hO ⊢
      rw [← es2] at hnx
      have hfine : Tk.Fine n (fun i => (Tk.list n s.T)[i]?.getD default) (s.r : Nat) := ⟨fun i hi => by rw [Tk.list_get n s.T i hi]; exact (hg.2.2.1 i hi).1, fun i hi => by rw [Tk.list_get n s.T i hi]; exact ⟨(hg.2.2.1 i hi).2.1, (hg.2.2.1 i hi).2.2.1⟩, by omega, by have := hg.1; omega⟩
      obtain ⟨p', c', e', htoys⟩ := toys_of_owns hO
      simp only [Value.slice.injEq] at e'
      obtain ⟨rfl, _, rfl⟩ := e'
      have N1 := ref27_next (cap := c1) htoys (Tk.list_len n s.T) (s.r : Nat) hfine (by omega) pk hpi
      rw [Tk.next_congr (fun i hi => Tk.list_get n s.T i hi)] at N1
      unfold Tk.step at hnx
      rw [if_neg (by rw [hsp]; simp)] at hnx
      simp only [Int.zero_add] at hnx
      obtain ⟨x, ex⟩ : ∃ x, x = Tk.next n s.T (s.r : Nat) pk := ⟨_, rfl⟩
      rw [← ex] at N1 hnx
      have N1 := Lib.hid N1
      have EX := Lib.hid ex
      have HGK := Lib.hid hG
      have HO := Lib.hid hO
      have HB := Lib.hid hB
      have HG1 := Lib.hid hg
      have HUP := Lib.hid (HST.out (k + 1))
      have hkn : (k : Int) < m := by omega
      have hr1 := hg.1
      by_cases hx : x < 0
      · rw [if_pos hx] at hnx
        have hfin : F m = ⟨s.T, s.r, s.st, true⟩ := by
          have h1 : (F (k + 1)).stop = true := by rw [← ES2.out, hnx]
          have h2 := HUP.out h1 (m - (k + 1))
          rw [show k + 1 + (m - (k + 1)) = m by omega] at h2
          rw [h2, ← ES2.out, hnx]
        have HFIN := Lib.hid hfin
        clear hnx hfin ex es es2 epk hpi hg hcell hG hO hB hsp hfine htoys
        go_wp2_with fail
        (with_reducible refine N1.out.mono ?_)
        rintro e w1 ⟨rfl, hb1⟩
        have G1 := Lib.hid ((hb1.block _ (lt_of_heap HGK.out)).trans HGK.out)
        have O1 := Lib.hid (HO.out.below hb1)
        have B1 := Lib.hid (HB.out.trans (hb1.mono HB.out.size))
        clear hb1
        go_wp2
        refine bodyPost_ret (results_tmp3 rfl _ _ _) rfl ?_
        obtain ⟨p'', c'', e'', ht''⟩ := toys_of_owns O1.out
        simp only [Value.slice.injEq] at e''
        obtain ⟨rfl, _, rfl⟩ := e''
        exact ⟨p1, c1, by rw [HFIN.out]; rfl, by rw [HFIN.out]; exact G1.out, by rw [HFIN.out]; exact ht'', B1.out⟩
      · rw [if_neg hx] at hnx
        obtain ⟨xn, exn, hxl, hrd⟩ := Tk.next_in (by rw [← EX.out]; exact hx : ¬ Tk.next n s.T (s.r : Nat) pk < 0)
        obtain rfl : x = xn := EX.out.trans exn
        rw [Int.toNat_natCast] at hnx
        have hl1 : ¬ (s.T xn).left < 1 := fun h => by unfold Toy.ready at hrd; rw [if_pos h] at hrd; cases hrd
        obtain ⟨g, cap2, e2, hgB, hgl, _, hcs, hth⟩ := hO.some_of27 (by omega)
        simp only [Value.slice.injEq] at e2
        obtain ⟨rfl, _, rfl⟩ := e2
        have hv := hg.2.2.2 xn
        have hlen := hg.2.1
        have hti := (hg.2.2.1 xn hxl).1.1
        obtain ⟨v, ev⟩ : ∃ v, v = s.st[xn]?.getD 0 := ⟨_, rfl⟩
        rw [← ev] at hnx hv
        obtain ⟨lf, elf⟩ : ∃ v, v = (s.T xn).left := ⟨_, rfl⟩
        rw [← elf] at hl1 hti
        have HNX2 := Lib.hid hnx
        have EV := Lib.hid ev
        have ELF := Lib.hid elf
        have hxn : (xn : Int) < n := by omega
        have HXL := Lib.hid hxl
        have HLEN := Lib.hid hlen
        have hgG : g ≠ w.heap.size := by omega
        have HTI := Lib.hid hti
        have HL1 := Lib.hid hl1
        clear hnx hrd exn ex es es2 epk hpi hg hcell hG hO hB hsp hfine htoys ev elf hl1 hti hlen hcs hth hgl
        go_wp2_with fail
        (with_reducible refine N1.out.mono ?_)
        rintro e w1 ⟨rfl, hb1⟩
        have hG1 := (hb1.block _ (lt_of_heap HGK.out)).trans HGK.out
        have hO1 := HO.out.below hb1
        have B1 := Lib.hid (HB.out.trans (hb1.mono HB.out.size))
        obtain ⟨g', cap3, e3, _, hgl1, _, hcs1, hth1⟩ := hO1.some_of27 (by omega)
        simp only [Value.slice.injEq, Option.some.injEq, Addr.mk.injEq, and_true, true_and] at e3
        obtain ⟨rfl, rfl⟩ := e3
        have a1 : w1.cell? ⟨g, xn * 3, none⟩ = some (.int .i64 lf) := by
          have := hcs1 (xn * 3) _ (toyVals_get n s.T (xn * 3) (by have := HXL.out; omega))
          rw [show xn * 3 / 3 = xn by omega, show xn * 3 % 3 = 0 by omega] at this
          rw [this, ELF.out]
          rfl
        have a2 : w1.frozen? ⟨g, xn * 3, none⟩ = false := by
          exact (hth1 (xn * 3) (by have h1 := HXL.out; omega)).2
        have hlx : xn < s.st.length := by have := HLEN.out; have := HXL.out; omega
        have hG2 : (w1.setCell ⟨g, xn * 3, none⟩ (.int .i64 (lf - 1))).heap[w.heap.size]? = some (.cells (intRow s.st) 3 (0, 0)) := (Below.heap_setCell _ _ _ _ (by show w.heap.size ≠ g; omega)).trans hG1
        have b1 : (w1.setCell ⟨g, xn * 3, none⟩ (.int .i64 (lf - 1))).cell? ⟨w.heap.size, xn, none⟩ = some (.int .i64 v) := by rw [cell_of_row _ _ _ _ _ _ hG2, intRow_get _ _ hlx, ← EV.out]
        have b2 : (w1.setCell ⟨g, xn * 3, none⟩ (.int .i64 (lf - 1))).frozen? ⟨w.heap.size, xn, none⟩ = false := frozen_of_row _ _ _ _ _ hG2
        have hG3 : ((w1.setCell ⟨g, xn * 3, none⟩ (.int .i64 (lf - 1))).setCell ⟨w.heap.size, xn, none⟩ (.int .i64 (v + 1))).heap[w.heap.size]? = some (.cells (intRow (s.st.set xn (v + 1))) 3 (0, 0)) := by rw [heap_setCell_same _ _ _ _ _ _ hG2, intRow_set]
        have hO2 := hO1.putOne27 (g := g) rfl (xn * 3) (.int .i64 (lf - 1)) (by have := HXL.out; omega)
        rw [ELF.out, toyVals_less n s.T xn HXL.out, ← ELF.out] at hO2
        have hO3 := hO2.setOther (b := w.heap.size) (j := xn) (.int .i64 (v + 1)) (fun e => by have h := Option.some.inj (show some g = some w.heap.size from e); omega)
        have hB3 := (B1.out.setCell (p := ⟨g, xn * 3, none⟩) (by show w.heap.size ≤ g; omega) (.int .i64 (lf - 1))).setCell (p := ⟨w.heap.size, xn, none⟩) (Nat.le_refl _) (.int .i64 (v + 1))
        have X3 := Lib.hid (And.intro hG3 (And.intro hO3 hB3))
        have hlf := HTI.out
        have hlf1 := HL1.out
        unfold I64 at hlf
        clear hb1 hG1 hO1 hgl1 hcs1 hth1 hG2 hG3 hO2 hO3 hB3 HGK HO HB N1
        go_wp2
        exact ⟨⟨k + 1, by omega, by go_num, by rw [← ES2.out, HNX2.out]; go_num, by rw [← ES2.out, HNX2.out], by rw [← ES2.out, HNX2.out]; exact X3.out.1, by rw [← ES2.out, HNX2.out]; exact X3.out.2.1, X3.out.2.2⟩, by simp [intOf]; omega⟩
    · obtain rfl : k = m := by omega
      have HO := Lib.hid hO
      have HGK := Lib.hid hG
      have HB := Lib.hid hB
      clear hO hG hB hsp
      go_wp2
      refine bodyPost_ret (results_tmp3 rfl _ _ _) rfl ?_
      obtain ⟨p'', c'', e'', ht''⟩ := toys_of_owns HO.out
      simp only [Value.slice.injEq] at e''
      obtain ⟨rfl, _, rfl⟩ := e''
      exact ⟨p1, c1, rfl, HGK.out, ht'', HB.out⟩
end
end Go.Proofs.Ytldhbgefpfmkmaa
