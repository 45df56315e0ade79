/- Layer 55: all rows in one, and the longest row of rests: the program's. -/
import Derived.Test.YtldhbgefpfmkmaaJLoop2
import Derived.Test.YtldhbgefpfmkmaaJBase
import Derived.BigRegion
namespace Go.Proofs.Ytldhbgefpfmkmaa
open Go.ChangeShapes Go.WideShapes Go.ChangeAt Go.RowKit

def Lp.tot (l : List Adv) : Nat → Adv
  | 0 => ⟨0, 0, 0, 0, 0⟩
  | k + 1 => ⟨(l[k]?.getD default).tick, Sat.clamp ((Lp.tot l k).load + (l[k]?.getD default).load), max (Lp.tot l k).want (l[k]?.getD default).want, Sat.clamp ((Lp.tot l k).repl + (l[k]?.getD default).repl), (l[k]?.getD default).why⟩
def Lp.streak (l : List Adv) : Nat → Int
  | 0 => 0
  | k + 1 => if (l[k]?.getD default).why = 0 then 0 else Lp.streak l k + 1
def Lp.long (l : List Adv) : Nat → Int
  | 0 => 0
  | k + 1 => max (Lp.long l k) (Lp.streak l (k + 1))
theorem Lp.streak_in (l : List Adv) : ∀ k, 0 ≤ Lp.streak l k ∧ Lp.streak l k ≤ k
  | 0 => ⟨Int.le_refl _, Int.le_refl _⟩
  | k + 1 => by
    have := Lp.streak_in l k
    unfold Lp.streak
    split <;> omega
theorem Lp.long_in (l : List Adv) : ∀ k, 0 ≤ Lp.long l k ∧ Lp.long l k ≤ k
  | 0 => ⟨Int.le_refl _, Int.le_refl _⟩
  | k + 1 => by
    have h1 := Lp.long_in l k
    have h2 := Lp.streak_in l (k + 1)
    unfold Lp.long
    omega
theorem Lp.tot_in (l : List Adv) (hl : ∀ a ∈ l, a.In) : ∀ k, k ≤ l.length → (Lp.tot l k).In ∧ 0 ≤ (Lp.tot l k).want
  | 0, _ => by
    refine ⟨⟨?_, ?_, ?_, ?_, ?_⟩, ?_⟩ <;> simp [Lp.tot, I64]
  | k + 1, h => by
    have h1 := Lp.tot_in l hl k (by omega)
    have h2 : (l[k]?.getD default).In := by rw [List.getElem?_eq_getElem (by omega)]; exact hl _ (List.getElem_mem _)
    obtain ⟨⟨a1, a2, a3, a4, a5⟩, a6⟩ := h1
    obtain ⟨b1, b2, b3, b4, b5⟩ := h2
    refine ⟨⟨b1, Sat.clamp_in _, ?_, Sat.clamp_in _, b5⟩, ?_⟩
    · show I64 (max _ _); unfold I64 at *; omega
    · show 0 ≤ max _ _; omega

set_option maxHeartbeats 1000000 in
set_option maxRecDepth 100000 in
theorem loop_longest (q : Option Addr) (c n : Nat) (l : List Adv) (en : l.length = n) (hb : n ≤ 9223372036854775807) (w : World) (hs : Advs w q l) :
    Calls Try.prog 57 #[.slice q n c] w fun e w' => e = .returned (.int .i64 (Lp.long l n)) ∧ Below w.heap.size w w' := by
  have HS := Lib.hid hs
  have EN := Lib.hid en
  have HR := Lib.hid (fun k => show Lp.streak l (k + 1) = if (l[k]?.getD default).why = 0 then 0 else Lp.streak l k + 1 from rfl)
  have HL := Lib.hid (fun k => show Lp.long l (k + 1) = max (Lp.long l k) (Lp.streak l (k + 1)) from rfl)
  have HRI := Lib.hid (Lp.streak_in l)
  have HLI := Lib.hid (Lp.long_in l)
  have R0 : Hid (Lp.streak l 0 = 0) := rfl
  have L0 : Hid (Lp.long l 0 = 0) := rfl
  obtain ⟨f, ef⟩ : ∃ f, f = Lp.streak l := ⟨_, rfl⟩
  obtain ⟨g, eg⟩ : ∃ f, f = Lp.long l := ⟨_, rfl⟩
  simp only [← ef] at HR HL HRI R0
  simp only [← eg] at HL HLI L0 ⊢
  clear ef eg hs en
  go_enter Try.func57, Try.ntmps57
  go_wp2
  go_loopw [3, 4, 9] (fun a b i wr => ∃ k : Nat, k ≤ n ∧ i = .int .i64 (k : Nat) ∧ a = .int .i64 (g k) ∧ b = .int .i64 (f k) ∧ Below w.heap.size w wr) (fun _ _ i _ => n - (intOf i).toNat)
  case atStart => exact ⟨0, by omega, rfl, by rw [L0.out], by rw [R0.out], Below.refl _ _⟩
  case round =>
    obtain ⟨k, hk, rfl, rfl, rfl, hB⟩ := hrel
    by_cases hlt : k < n
    · have hkl : k < l.length := by have := EN.out; omega
      obtain ⟨bq, off, rfl, hbw, c0, c1, c2, c3, c4⟩ := (HS.out.below hB).cells k hkl
      have hr := HR.out k
      have hg := HL.out k
      have hri := HRI.out k
      have hgi := HLI.out k
      have hri2 := HRI.out (k + 1)
      obtain ⟨⟨x0, x1, x2, x3, x4⟩, ex⟩ : ∃ x, x = l[k]?.getD default := ⟨_, rfl⟩
      rw [← ex] at c0 c1 c2 c3 c4 hr
      simp only at c0 c1 c2 c3 c4 hr
      obtain ⟨a, ea⟩ : ∃ a, a = f k := ⟨_, rfl⟩
      obtain ⟨b, eb⟩ : ∃ a, a = g k := ⟨_, rfl⟩
      rw [← ea] at hr hri ⊢
      rw [← eb] at hg hgi ⊢
      have HB := Lib.hid (hB.alloc hB.size (.cells #[.int .i64 x0, .int .i64 x1, .int .i64 x2, .int .i64 x3, .int .i64 x4] 109))
      have hkn : (k : Int) < n := by omega
      have k4 : (wr.alloc (.cells #[.int .i64 x0, .int .i64 x1, .int .i64 x2, .int .i64 x3, .int .i64 x4] 109)).cell? ⟨wr.heap.size, 4, none⟩ = some (.int .i64 x4) := by rw [cell_of_row _ _ _ _ _ _ (heap_alloc_at wr _ _ rfl)]; rfl
      by_cases hz : x4 = 0
      · rw [if_pos hz] at hr
        subst hz
        rw [hr] at hg
        have hg2 : g (k + 1) = b := by rw [hg]; omega
        have HG := Lib.hid hg2
        have HRR := Lib.hid hr
        have hle : ¬ b < 0 := by omega
        clear hr hg hg2 ex ea eb hri2 hB
        go_wp2
        exact ⟨⟨k + 1, by omega, by go_num, by rw [HG.out], by rw [HRR.out], HB.out⟩, by simp [intOf]; omega⟩
      · rw [if_neg hz] at hr
        rw [hr] at hg
        have hzb : (x4 == 0) = false := beq_eq_false_iff_ne.2 hz
        have HRR := Lib.hid hr
        by_cases hm : b < a + 1
        · have hg2 : g (k + 1) = a + 1 := by rw [hg]; omega
          have HG := Lib.hid hg2
          clear hr hg hg2 ex ea eb hB hri2 hz
          go_wp2
          exact ⟨⟨k + 1, by omega, by go_num, by rw [HG.out], by rw [HRR.out], HB.out⟩, by simp [intOf]; omega⟩
        · have hg2 : g (k + 1) = b := by rw [hg]; omega
          have HG := Lib.hid hg2
          clear hr hg hg2 ex ea eb hB hri2 hz
          go_wp2
          exact ⟨⟨k + 1, by omega, by go_num, by rw [HG.out], by rw [HRR.out], HB.out⟩, by simp [intOf]; omega⟩
    · obtain rfl : k = n := by omega
      have HB := Lib.hid hB
      clear hB
      go_wp2
      go_ret
      exact ⟨rfl, HB.out⟩

set_option maxHeartbeats 2000000 in
set_option maxRecDepth 100000 in
theorem loop_total (q : Option Addr) (c n : Nat) (l : List Adv) (en : l.length = n) (hl : ∀ a ∈ l, a.In) (hb : n ≤ 9223372036854775807) (w : World) (hs : Advs w q l) :
    Calls Try.prog 55 #[.slice q n c] w fun e w' => e = .returned (.agg #[.int .i64 (Lp.tot l n).tick, .int .i64 (Lp.tot l n).load, .int .i64 (Lp.tot l n).want, .int .i64 (Lp.tot l n).repl, .int .i64 (Lp.tot l n).why]) ∧ Below w.heap.size w w' := by
  have HS := Lib.hid hs
  have EN := Lib.hid en
  have HIN := Lib.hid hl
  have HT := Lib.hid (fun k => show Lp.tot l (k + 1) = ⟨(l[k]?.getD default).tick, Sat.clamp ((Lp.tot l k).load + (l[k]?.getD default).load), max (Lp.tot l k).want (l[k]?.getD default).want, Sat.clamp ((Lp.tot l k).repl + (l[k]?.getD default).repl), (l[k]?.getD default).why⟩ from rfl)
  have HTI := Lib.hid (Lp.tot_in l hl)
  have T0 : Hid (Lp.tot l 0 = ⟨0, 0, 0, 0, 0⟩) := rfl
  obtain ⟨f, ef⟩ : ∃ f, f = Lp.tot l := ⟨_, rfl⟩
  simp only [← ef] at HT HTI T0 ⊢
  have M0 := Lib.hid (((Mem.start w).alloc (.cells #[.int .i64 0, .int .i64 0, .int .i64 0, .int .i64 0, .int .i64 0] 109)).allocAs (w.heap.size + 1) (.cells #[.int .i64 0, .int .i64 0, .int .i64 0, .int .i64 0, .int .i64 0] 109) (by simp))
  obtain ⟨⟨e0, e1, e2, e3, e4⟩, ee⟩ : ∃ x, x = f n := ⟨_, rfl⟩
  rw [← ee]
  have EE := Lib.hid ee
  clear ef hs en hl ee
  go_enter Try.func55, Try.ntmps55
  go_wp2
  go_loopw [8] (fun i wr => ∃ k : Nat, k ≤ n ∧ i = .int .i64 (k : Nat) ∧ Mem w wr [(w.heap.size, .cells #[.int .i64 0, .int .i64 0, .int .i64 0, .int .i64 0, .int .i64 0] 109), (w.heap.size + 1, .cells #[.int .i64 (f k).tick, .int .i64 (f k).load, .int .i64 (f k).want, .int .i64 (f k).repl, .int .i64 (f k).why] 109)]) (fun i _ => n - (intOf i).toNat)
  case atStart => exact ⟨0, by omega, rfl, by rw [T0.out]; exact M0.out⟩
  case round =>
    obtain ⟨k, hk, rfl, hM⟩ := hrel
    clear M0
    by_cases hlt : k < n
    · have hkl : k < l.length := by have := EN.out; omega
      obtain ⟨bq, off, rfl, hbw, c0, c1, c2, c3, c4⟩ := (HS.out.below hM.below).cells k hkl
      have hin : (l[k]?.getD default).In := by rw [List.getElem?_eq_getElem hkl]; exact HIN.out _ (List.getElem_mem _)
      have ht := HT.out k
      have hti := HTI.out k (by omega)
      obtain ⟨⟨x0, x1, x2, x3, x4⟩, ex⟩ : ∃ x, x = l[k]?.getD default := ⟨_, rfl⟩
      obtain ⟨⟨t0, t1, t2, t3, t4⟩, et⟩ : ∃ x, x = f k := ⟨_, rfl⟩
      rw [← ex] at c0 c1 c2 c3 c4 ht hin
      rw [← et] at ht hti hM
      obtain ⟨f2, ef2⟩ : ∃ x, x = f (k + 1) := ⟨_, rfl⟩
      rw [← ef2] at ht
      simp only at c0 c1 c2 c3 c4 ht hM
      have HA := Lib.hid (sat_add t1 x1 hti.1.2.1 hin.2.1)
      have HC := Lib.hid (sat_add t3 x3 hti.1.2.2.2.1 hin.2.2.2.1)
      obtain ⟨a1, ea1⟩ : ∃ a, a = Sat.clamp (t1 + x1) := ⟨_, rfl⟩
      obtain ⟨a2, ea2⟩ : ∃ a, a = max t2 x2 := ⟨_, rfl⟩
      obtain ⟨a3, ea3⟩ : ∃ a, a = Sat.clamp (t3 + x3) := ⟨_, rfl⟩
      rw [← ea1] at HA ht
      rw [← ea3] at HC ht
      rw [← ea2] at ht
      have HMX := Lib.hid ea2
      have HF2 := Lib.hid ht
      have EF2 := Lib.hid ef2
      have M1 := Lib.hid (hM.alloc (.cells #[.int .i64 x0, .int .i64 x1, .int .i64 x2, .int .i64 x3, .int .i64 x4] 109))
      have hkn : (k : Int) < n := by omega
      have hXlt : w.heap.size + 1 < wr.heap.size := hM.lt (i := 1) rfl
      clear ht ef2 ea1 ea2 ea3 ex et hti hin hM
      go_wp2_with fail
      obtain ⟨W1, hW1⟩ : ∃ W, W = wr.alloc (.cells #[.int .i64 x0, .int .i64 x1, .int .i64 x2, .int .i64 x3, .int .i64 x4] 109) := ⟨_, rfl⟩
      rw [← hW1] at M1 ⊢
      obtain ⟨X, hX⟩ : ∃ X, wr.heap.size = X := ⟨_, rfl⟩
      rw [hX] at M1 hXlt ⊢
      clear hX c0 c1 c2 c3 c4 hbw hW1
      have k0 := M1.out.cell 2 0 rfl rfl
      have k4 := M1.out.cell 2 4 rfl rfl
      have d0 := M1.out.cell 1 0 rfl rfl
      have d4 := M1.out.cell 1 4 rfl rfl
      have z0 := M1.out.free 1 0 rfl
      have z4 := M1.out.free 1 4 rfl
      go_region
      have hS := ((M1.out.setCell 1 0 (.int .i64 x0) rfl).setCell 1 4 (.int .i64 x4) rfl).drewN 1
      rw [show (((W1.setCell ⟨w.heap.size + 1, 0, none⟩ (.int .i64 x0)).setCell ⟨w.heap.size + 1, 4, none⟩ (.int .i64 x4)).drewN 1) = (((W1.setCell ⟨w.heap.size + 1, 0, none⟩ (.int .i64 x0)).setCell ⟨w.heap.size + 1, 4, none⟩ (.int .i64 x4)).drew) from rfl] at hS
      generalize (((W1.setCell ⟨w.heap.size + 1, 0, none⟩ (.int .i64 x0)).setCell ⟨w.heap.size + 1, 4, none⟩ (.int .i64 x4)).drew) = wd at hS ⊢
      clear k0 k4 d0 d4 z0 z4 M1
      have k2 := hS.cell 2 2 rfl rfl
      have d2 := hS.cell 1 2 rfl rfl
      have z2 := hS.free 1 2 rfl
      have M2 := Lib.hid (hS.setCell 1 2 (.int .i64 a2) rfl)
      have k1 := M2.out.cell 2 1 rfl rfl
      have d1 := M2.out.cell 1 1 rfl rfl
      have z1 := M2.out.free 1 1 rfl
      have M3 := Lib.hid (M2.out.setCell 1 1 (.int .i64 a1) rfl)
      have k3 := M3.out.cell 2 3 rfl rfl
      have d3 := M3.out.cell 1 3 rfl rfl
      have z3 := M3.out.free 1 3 rfl
      have M4 := Lib.hid (M3.out.setCell 1 3 (.int .i64 a3) rfl)
      clear hS M2 M3
      by_cases hm : t2 < x2
      · obtain rfl : a2 = x2 := by have := HMX.out; omega
        go_wp2_with (first | ((with_reducible refine (HA.out _).mono ?_); rintro e w3 ⟨rfl, rfl⟩) | ((with_reducible refine (HC.out _).mono ?_); rintro e w3 ⟨rfl, rfl⟩))
        exact ⟨⟨k + 1, by omega, by go_num, by rw [← EF2.out, HF2.out]; exact M4.out.init (cs := [_])⟩, by simp [intOf]; omega⟩
      · obtain rfl : a2 = t2 := by have := HMX.out; omega
        go_wp2_with (first | ((with_reducible refine (HA.out _).mono ?_); rintro e w3 ⟨rfl, rfl⟩) | ((with_reducible refine (HC.out _).mono ?_); rintro e w3 ⟨rfl, rfl⟩))
        exact ⟨⟨k + 1, by omega, by go_num, by rw [← EF2.out, HF2.out]; exact M4.out.init (cs := [_])⟩, by simp [intOf]; omega⟩
    · obtain rfl : k = n := by omega
      rw [← EE.out] at hM
      have MM := Lib.hid hM
      have K1 := Lib.hid (hM.heap 1 rfl)
      have K0 := Lib.hid (hM.heap 0 rfl)
      clear hM HTI HT
      go_wp2_with (first | ((with_reducible refine wpList_load_rowAs rfl 109 _ rfl ((w.heap.size + 1)) ?_ 109 #[.int .i64 e0, .int .i64 e1, .int .i64 e2, .int .i64 e3, .int .i64 e4] (0, 0) _ 5 ?_ Try.underlying109 rfl (by kernel_rfl) ?_ ?_); exact rfl; exact K1.out; exact rfl) | ((with_reducible refine wpList_store_rowAs rfl 109 _ _ rfl (w.heap.size) #[.int .i64 e0, .int .i64 e1, .int .i64 e2, .int .i64 e3, .int .i64 e4] ?_ ?_ 109 #[.int .i64 0, .int .i64 0, .int .i64 0, .int .i64 0, .int .i64 0] 5 ?_ (by kernel_rfl) rfl rfl (by simp [Value.oneCell']) ?_); exact rfl; exact rfl; exact K0.out))
      have MA := MM.out.setRow (cs := #[.int .i64 e0, .int .i64 e1, .int .i64 e2, .int .i64 e3, .int .i64 e4]) 0 rfl
      exact bodyPost_ret (results_cell_row rfl _ _ w.heap.size 109 #[.int .i64 e0, .int .i64 e1, .int .i64 e2, .int .i64 e3, .int .i64 e4] (0, 0) _ rfl (MA.heap 0 rfl) Try.underlying109 rfl (by kernel_rfl)) rfl ⟨rfl, MA.below⟩
end Go.Proofs.Ytldhbgefpfmkmaa
