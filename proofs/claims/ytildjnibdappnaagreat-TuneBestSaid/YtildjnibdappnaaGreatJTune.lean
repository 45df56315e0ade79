/- Layer 45: a policy with another number. -/
import Derived.Test.YtildjnibdappnaaGreatJPol
import Derived.Test.YtildjnibdappnaaGreatJBase
import Derived.Deep.CutRange
namespace Go.Proofs.YtildjnibdappnaaGreat
open Go.ChangeShapes Go.WideShapes Go.ChangeAt Go.RowKit

def Pol.with (p : Pol) (f : Int) (v : Int) : Pol :=
  if f = 1 then ⟨v, p.mx, p.tg, p.tl, p.wi, p.ho⟩ else if f = 2 then ⟨p.mn, v, p.tg, p.tl, p.wi, p.ho⟩ else if f = 3 then ⟨p.mn, p.mx, v, p.tl, p.wi, p.ho⟩
  else if f = 4 then ⟨p.mn, p.mx, p.tg, v, p.wi, p.ho⟩ else if f = 5 then ⟨p.mn, p.mx, p.tg, p.tl, v, p.ho⟩ else if f = 6 then ⟨p.mn, p.mx, p.tg, p.tl, p.wi, v⟩ else p
theorem Pol.with_out {p : Pol} {f v : Int} (h : f < 1 ∨ 6 < f) : Pol.with p f v = p := by
  unfold Pol.with
  rw [if_neg (by omega), if_neg (by omega), if_neg (by omega), if_neg (by omega), if_neg (by omega), if_neg (by omega)]

set_option maxHeartbeats 1000000 in
set_option maxRecDepth 100000 in
theorem tune_with_in (p : Pol) (j : Nat) (hj : j < 6) (v : Int) (q : Pol) (hq : (#[.int .i64 p.mn, .int .i64 p.mx, .int .i64 p.tg, .int .i64 p.tl, .int .i64 p.wi, .int .i64 p.ho] : Array Value).setIfInBounds j (.int .i64 v) = #[.int .i64 q.mn, .int .i64 q.mx, .int .i64 q.tg, .int .i64 q.tl, .int .i64 q.wi, .int .i64 q.ho]) (w : World) :
    Calls Tryz.prog 15 #[.agg #[.int .i64 p.mn, .int .i64 p.mx, .int .i64 p.tg, .int .i64 p.tl, .int .i64 p.wi, .int .i64 p.ho], .int .i64 ((j : Int) + 1), .int .i64 v] w fun e w' => e = .returned (.agg #[.int .i64 q.mn, .int .i64 q.mx, .int .i64 q.tg, .int .i64 q.tl, .int .i64 q.wi, .int .i64 q.ho]) ∧ Below w.heap.size w w' := by
  have HQ := Lib.hid hq
  obtain ⟨W, hW⟩ : ∃ W, W = (((w.alloc (.cells #[.int .i64 p.mn, .int .i64 p.mx, .int .i64 p.tg, .int .i64 p.tl, .int .i64 p.wi, .int .i64 p.ho] 23)).alloc (.cells #[.int .i64 0, .int .i64 0, .int .i64 0, .int .i64 0, .int .i64 0, .int .i64 0] 23)).alloc (.cells #[.int .i64 p.mn, .int .i64 p.mx, .int .i64 p.tg, .int .i64 p.tl, .int .i64 p.wi, .int .i64 p.ho] 69)) := ⟨_, rfl⟩
  have M1 : Hid (Mem w W [(w.heap.size, .cells #[.int .i64 p.mn, .int .i64 p.mx, .int .i64 p.tg, .int .i64 p.tl, .int .i64 p.wi, .int .i64 p.ho] 23), (w.heap.size + 1, .cells #[.int .i64 0, .int .i64 0, .int .i64 0, .int .i64 0, .int .i64 0, .int .i64 0] 23), (w.heap.size + 2, .cells #[.int .i64 p.mn, .int .i64 p.mx, .int .i64 p.tg, .int .i64 p.tl, .int .i64 p.wi, .int .i64 p.ho] 69)]) := by
    show Mem _ _ _
    rw [hW]
    exact (((Mem.start w).alloc _).allocAs (w.heap.size + 1) _ (by simp)).allocAs (w.heap.size + 2) _ (by simp)
  have d1 : decide ((1 : Int) ≤ (j : Int) + 1) = true := decide_eq_true (by omega)
  have d2 : decide ((j : Int) + 1 ≤ 6) = true := decide_eq_true (by omega)
  have i1 : (0 : Int) ≤ (j : Int) := by omega
  have i2 : (j : Int) < 6 := by omega
  have i3 : (j : Int) + 1 - 1 = (j : Int) := by omega
  obtain ⟨o, ho⟩ : ∃ o, (#[.int .i64 p.mn, .int .i64 p.mx, .int .i64 p.tg, .int .i64 p.tl, .int .i64 p.wi, .int .i64 p.ho] : Array Value)[j]? = some o := by
    match j, hj with
    | 0, _ => exact ⟨_, rfl⟩
    | 1, _ => exact ⟨_, rfl⟩
    | 2, _ => exact ⟨_, rfl⟩
    | 3, _ => exact ⟨_, rfl⟩
    | 4, _ => exact ⟨_, rfl⟩
    | 5, _ => exact ⟨_, rfl⟩
  have z1 := M1.out.cell 2 j rfl ho
  have z2 := M1.out.free 2 j rfl
  clear hq
  go_enter Tryz.func15, Tryz.ntmps15
  go_upto_region 2 with fail
  rw [← hW]
  clear hW
  go_upto_region 4 with fail
  have M2 : Hid (Mem w (W.setCell ⟨w.heap.size + 2, j, none⟩ (.int .i64 v)) [(w.heap.size, .cells #[.int .i64 p.mn, .int .i64 p.mx, .int .i64 p.tg, .int .i64 p.tl, .int .i64 p.wi, .int .i64 p.ho] 23), (w.heap.size + 1, .cells #[.int .i64 0, .int .i64 0, .int .i64 0, .int .i64 0, .int .i64 0, .int .i64 0] 23), (w.heap.size + 2, .cells #[.int .i64 q.mn, .int .i64 q.mx, .int .i64 q.tg, .int .i64 q.tl, .int .i64 q.wi, .int .i64 q.ho] 69)]) := by
    have := M1.out.setCell 2 j (.int .i64 v) rfl
    rw [HQ.out] at this
    exact this
  obtain ⟨W2, hW2⟩ : ∃ X, X = W.setCell ⟨w.heap.size + 2, j, none⟩ (.int .i64 v) := ⟨_, rfl⟩
  rw [← hW2] at M2
  rw [show W.setCell ⟨w.heap.size + 1 + 1, j, none⟩ (.int .i64 v) = W2 from hW2.symm]
  have q0 := M2.out.cell 2 0 rfl rfl
  have q1 := M2.out.cell 2 1 rfl rfl
  have q2 := M2.out.cell 2 2 rfl rfl
  have q3 := M2.out.cell 2 3 rfl rfl
  have q4 := M2.out.cell 2 4 rfl rfl
  have q5 := M2.out.cell 2 5 rfl rfl
  have K1 := Lib.hid (M2.out.heap 1 rfl)
  clear hW2 M1 z1 z2
  go_wp2_with ((with_reducible refine wpList_store_rowAs rfl 23 _ _ rfl ((w.heap.size + 1)) #[.int .i64 q.mn, .int .i64 q.mx, .int .i64 q.tg, .int .i64 q.tl, .int .i64 q.wi, .int .i64 q.ho] ?_ ?_ 23 #[.int .i64 0, .int .i64 0, .int .i64 0, .int .i64 0, .int .i64 0, .int .i64 0] 6 ?_ (by kernel_rfl) rfl rfl (by simp [Value.oneCell']) ?_); exact rfl; exact rfl; exact K1.out)
  exact bodyPost_ret (results_cell_row rfl _ _ (w.heap.size + 1) 23 #[.int .i64 q.mn, .int .i64 q.mx, .int .i64 q.tg, .int .i64 q.tl, .int .i64 q.wi, .int .i64 q.ho] (0, 0) _ rfl (setRow_heap _ _ _ _ _ _ K1.out) Tryz.underlying23 rfl polInfo) rfl ⟨rfl, (M2.out.setRow 1 rfl).below⟩

set_option maxHeartbeats 1000000 in
set_option maxRecDepth 100000 in
theorem tune_with_out (q : Pol) (f : Int) (hf : f < 1 ∨ 6 < f) (v : Int) (w : World) :
    Calls Tryz.prog 15 #[.agg #[.int .i64 q.mn, .int .i64 q.mx, .int .i64 q.tg, .int .i64 q.tl, .int .i64 q.wi, .int .i64 q.ho], .int .i64 f, .int .i64 v] w fun e w' => e = .returned (.agg #[.int .i64 q.mn, .int .i64 q.mx, .int .i64 q.tg, .int .i64 q.tl, .int .i64 q.wi, .int .i64 q.ho]) ∧ Below w.heap.size w w' := by
  obtain ⟨W, hW⟩ : ∃ W, W = (((w.alloc (.cells #[.int .i64 q.mn, .int .i64 q.mx, .int .i64 q.tg, .int .i64 q.tl, .int .i64 q.wi, .int .i64 q.ho] 23)).alloc (.cells #[.int .i64 0, .int .i64 0, .int .i64 0, .int .i64 0, .int .i64 0, .int .i64 0] 23)).alloc (.cells #[.int .i64 q.mn, .int .i64 q.mx, .int .i64 q.tg, .int .i64 q.tl, .int .i64 q.wi, .int .i64 q.ho] 69)) := ⟨_, rfl⟩
  have M2 : Hid (Mem w W [(w.heap.size, .cells #[.int .i64 q.mn, .int .i64 q.mx, .int .i64 q.tg, .int .i64 q.tl, .int .i64 q.wi, .int .i64 q.ho] 23), (w.heap.size + 1, .cells #[.int .i64 0, .int .i64 0, .int .i64 0, .int .i64 0, .int .i64 0, .int .i64 0] 23), (w.heap.size + 2, .cells #[.int .i64 q.mn, .int .i64 q.mx, .int .i64 q.tg, .int .i64 q.tl, .int .i64 q.wi, .int .i64 q.ho] 69)]) := by
    show Mem _ _ _
    rw [hW]
    exact (((Mem.start w).alloc _).allocAs (w.heap.size + 1) _ (by simp)).allocAs (w.heap.size + 2) _ (by simp)
  have q0 := M2.out.cell 2 0 rfl rfl
  have q1 := M2.out.cell 2 1 rfl rfl
  have q2 := M2.out.cell 2 2 rfl rfl
  have q3 := M2.out.cell 2 3 rfl rfl
  have q4 := M2.out.cell 2 4 rfl rfl
  have q5 := M2.out.cell 2 5 rfl rfl
  have K1 := Lib.hid (M2.out.heap 1 rfl)
  by_cases h1 : 1 ≤ f
  · have d1 : decide (1 ≤ f) = true := decide_eq_true h1
    have d2 : decide (f ≤ 6) = false := decide_eq_false (by omega)
    clear hf
    go_enter Tryz.func15, Tryz.ntmps15
    go_upto_region 2 with fail
    rw [← hW]
    clear hW
    go_wp2_with ((with_reducible refine wpList_store_rowAs rfl 23 _ _ rfl ((w.heap.size + 1)) #[.int .i64 q.mn, .int .i64 q.mx, .int .i64 q.tg, .int .i64 q.tl, .int .i64 q.wi, .int .i64 q.ho] ?_ ?_ 23 #[.int .i64 0, .int .i64 0, .int .i64 0, .int .i64 0, .int .i64 0, .int .i64 0] 6 ?_ (by kernel_rfl) rfl rfl (by simp [Value.oneCell']) ?_); exact rfl; exact rfl; exact K1.out)
    exact bodyPost_ret (results_cell_row rfl _ _ (w.heap.size + 1) 23 #[.int .i64 q.mn, .int .i64 q.mx, .int .i64 q.tg, .int .i64 q.tl, .int .i64 q.wi, .int .i64 q.ho] (0, 0) _ rfl (setRow_heap _ _ _ _ _ _ K1.out) Tryz.underlying23 rfl polInfo) rfl ⟨rfl, (M2.out.setRow 1 rfl).below⟩
  · have d1 : decide (1 ≤ f) = false := decide_eq_false h1
    clear hf
    go_enter Tryz.func15, Tryz.ntmps15
    go_upto_region 2 with fail
    rw [← hW]
    clear hW
    go_wp2_with ((with_reducible refine wpList_store_rowAs rfl 23 _ _ rfl ((w.heap.size + 1)) #[.int .i64 q.mn, .int .i64 q.mx, .int .i64 q.tg, .int .i64 q.tl, .int .i64 q.wi, .int .i64 q.ho] ?_ ?_ 23 #[.int .i64 0, .int .i64 0, .int .i64 0, .int .i64 0, .int .i64 0, .int .i64 0] 6 ?_ (by kernel_rfl) rfl rfl (by simp [Value.oneCell']) ?_); exact rfl; exact rfl; exact K1.out)
    exact bodyPost_ret (results_cell_row rfl _ _ (w.heap.size + 1) 23 #[.int .i64 q.mn, .int .i64 q.mx, .int .i64 q.tg, .int .i64 q.tl, .int .i64 q.wi, .int .i64 q.ho] (0, 0) _ rfl (setRow_heap _ _ _ _ _ _ K1.out) Tryz.underlying23 rfl polInfo) rfl ⟨rfl, (M2.out.setRow 1 rfl).below⟩

theorem tune_with (p : Pol) (f v : Int) (w : World) :
    Calls Tryz.prog 15 #[.agg #[.int .i64 p.mn, .int .i64 p.mx, .int .i64 p.tg, .int .i64 p.tl, .int .i64 p.wi, .int .i64 p.ho], .int .i64 f, .int .i64 v] w fun e w' => e = .returned (.agg #[.int .i64 (Pol.with p f v).mn, .int .i64 (Pol.with p f v).mx, .int .i64 (Pol.with p f v).tg, .int .i64 (Pol.with p f v).tl, .int .i64 (Pol.with p f v).wi, .int .i64 (Pol.with p f v).ho]) ∧ Below w.heap.size w w' := by
  by_cases hf : f < 1 ∨ 6 < f
  · rw [Pol.with_out hf]
    exact tune_with_out p f hf v w
  · obtain ⟨j, rfl⟩ : ∃ j : Nat, f = (j : Int) + 1 := ⟨(f - 1).toNat, by omega⟩
    have hj : j < 6 := by omega
    refine tune_with_in p j hj v (Pol.with p ((j : Int) + 1) v) ?_ w
    match j, hj with
    | 0, _ => rfl
    | 1, _ => rfl
    | 2, _ => rfl
    | 3, _ => rfl
    | 4, _ => rfl
    | 5, _ => rfl

set_option maxHeartbeats 1000000 in
set_option maxRecDepth 100000 in
theorem ref45_with_in (p : Pol) (j : Nat) (hj : j < 6) (v : Int) (q : Pol) (hq : (#[.int .i64 p.mn, .int .i64 p.mx, .int .i64 p.tg, .int .i64 p.tl, .int .i64 p.wi, .int .i64 p.ho] : Array Value).setIfInBounds j (.int .i64 v) = #[.int .i64 q.mn, .int .i64 q.mx, .int .i64 q.tg, .int .i64 q.tl, .int .i64 q.wi, .int .i64 q.ho]) (w : World) :
    Calls Tryz.prog 19 #[.agg #[.int .i64 p.mn, .int .i64 p.mx, .int .i64 p.tg, .int .i64 p.tl, .int .i64 p.wi, .int .i64 p.ho], .int .i64 ((j : Int) + 1), .int .i64 v] w fun e w' => e = .returned (.agg #[.int .i64 q.mn, .int .i64 q.mx, .int .i64 q.tg, .int .i64 q.tl, .int .i64 q.wi, .int .i64 q.ho]) ∧ Below w.heap.size w w' := by
  have HQ := Lib.hid hq
  obtain ⟨W, hW⟩ : ∃ W, W = (((w.alloc (.cells #[.int .i64 p.mn, .int .i64 p.mx, .int .i64 p.tg, .int .i64 p.tl, .int .i64 p.wi, .int .i64 p.ho] 23)).alloc (.cells #[.int .i64 0, .int .i64 0, .int .i64 0, .int .i64 0, .int .i64 0, .int .i64 0] 23)).alloc (.cells #[.int .i64 p.mn, .int .i64 p.mx, .int .i64 p.tg, .int .i64 p.tl, .int .i64 p.wi, .int .i64 p.ho] 23)) := ⟨_, rfl⟩
  have M1 : Hid (Mem w W [(w.heap.size, .cells #[.int .i64 p.mn, .int .i64 p.mx, .int .i64 p.tg, .int .i64 p.tl, .int .i64 p.wi, .int .i64 p.ho] 23), (w.heap.size + 1, .cells #[.int .i64 0, .int .i64 0, .int .i64 0, .int .i64 0, .int .i64 0, .int .i64 0] 23), (w.heap.size + 2, .cells #[.int .i64 p.mn, .int .i64 p.mx, .int .i64 p.tg, .int .i64 p.tl, .int .i64 p.wi, .int .i64 p.ho] 23)]) := by
    show Mem _ _ _
    rw [hW]
    exact (((Mem.start w).alloc _).allocAs (w.heap.size + 1) _ (by simp)).allocAs (w.heap.size + 2) _ (by simp)
  have M2 := M1.out.setCell 2 j (.int .i64 v) rfl
  rw [HQ.out] at M2
  have MM : Hid (Mem w (W.setCell ⟨w.heap.size + 2, j, none⟩ (.int .i64 v)) [(w.heap.size, .cells #[.int .i64 p.mn, .int .i64 p.mx, .int .i64 p.tg, .int .i64 p.tl, .int .i64 p.wi, .int .i64 p.ho] 23), (w.heap.size + 1, .cells #[.int .i64 0, .int .i64 0, .int .i64 0, .int .i64 0, .int .i64 0, .int .i64 0] 23), (w.heap.size + 2, .cells #[.int .i64 q.mn, .int .i64 q.mx, .int .i64 q.tg, .int .i64 q.tl, .int .i64 q.wi, .int .i64 q.ho] 23)]) := M2
  clear M2
  obtain ⟨W2, hW2⟩ : ∃ X, X = W.setCell ⟨w.heap.size + 2, j, none⟩ (.int .i64 v) := ⟨_, rfl⟩
  rw [← hW2] at MM
  have K2 := Lib.hid (MM.out.heap 2 rfl)
  have K1 := Lib.hid (MM.out.heap 1 rfl)
  have HW2 := Lib.hid hW2
  clear hq hW2
  obtain rfl | rfl | rfl | rfl | rfl | rfl : j = 0 ∨ j = 1 ∨ j = 2 ∨ j = 3 ∨ j = 4 ∨ j = 5 := by omega
  · have z1 := M1.out.cell 2 0 rfl rfl
    have z2 := M1.out.free 2 0 rfl
    go_enter Tryz.func19, Tryz.ntmps19
    go_upto_region 2 with fail
    rw [← hW]
    clear hW
    go_upto_region 15 with fail
    rw [show W.setCell ⟨w.heap.size + 1 + 1, 0, none⟩ (.int .i64 v) = W2 from HW2.out.symm]
    clear z1 z2 M1
    go_wp2_with (first | ((with_reducible refine wpList_load_rowAs rfl 23 _ rfl ((w.heap.size + 2)) ?_ 23 #[.int .i64 q.mn, .int .i64 q.mx, .int .i64 q.tg, .int .i64 q.tl, .int .i64 q.wi, .int .i64 q.ho] (0, 0) _ 6 ?_ Tryz.underlying23 rfl (by kernel_rfl) ?_ ?_); exact rfl; exact K2.out; exact rfl) | ((with_reducible refine wpList_store_rowAs rfl 23 _ _ rfl ((w.heap.size + 1)) #[.int .i64 q.mn, .int .i64 q.mx, .int .i64 q.tg, .int .i64 q.tl, .int .i64 q.wi, .int .i64 q.ho] ?_ ?_ 23 #[.int .i64 0, .int .i64 0, .int .i64 0, .int .i64 0, .int .i64 0, .int .i64 0] 6 ?_ (by kernel_rfl) rfl rfl (by simp [Value.oneCell']) ?_); exact rfl; exact rfl; exact K1.out))
    exact bodyPost_ret (results_cell_row rfl _ _ (w.heap.size + 1) 23 #[.int .i64 q.mn, .int .i64 q.mx, .int .i64 q.tg, .int .i64 q.tl, .int .i64 q.wi, .int .i64 q.ho] (0, 0) _ rfl (setRow_heap _ _ _ _ _ _ K1.out) Tryz.underlying23 rfl polInfo) rfl ⟨rfl, (MM.out.setRow 1 rfl).below⟩
  · have z1 := M1.out.cell 2 1 rfl rfl
    have z2 := M1.out.free 2 1 rfl
    go_enter Tryz.func19, Tryz.ntmps19
    go_upto_region 2 with fail
    rw [← hW]
    clear hW
    go_upto_region 15 with fail
    rw [show W.setCell ⟨w.heap.size + 1 + 1, 1, none⟩ (.int .i64 v) = W2 from HW2.out.symm]
    clear z1 z2 M1
    go_wp2_with (first | ((with_reducible refine wpList_load_rowAs rfl 23 _ rfl ((w.heap.size + 2)) ?_ 23 #[.int .i64 q.mn, .int .i64 q.mx, .int .i64 q.tg, .int .i64 q.tl, .int .i64 q.wi, .int .i64 q.ho] (0, 0) _ 6 ?_ Tryz.underlying23 rfl (by kernel_rfl) ?_ ?_); exact rfl; exact K2.out; exact rfl) | ((with_reducible refine wpList_store_rowAs rfl 23 _ _ rfl ((w.heap.size + 1)) #[.int .i64 q.mn, .int .i64 q.mx, .int .i64 q.tg, .int .i64 q.tl, .int .i64 q.wi, .int .i64 q.ho] ?_ ?_ 23 #[.int .i64 0, .int .i64 0, .int .i64 0, .int .i64 0, .int .i64 0, .int .i64 0] 6 ?_ (by kernel_rfl) rfl rfl (by simp [Value.oneCell']) ?_); exact rfl; exact rfl; exact K1.out))
    exact bodyPost_ret (results_cell_row rfl _ _ (w.heap.size + 1) 23 #[.int .i64 q.mn, .int .i64 q.mx, .int .i64 q.tg, .int .i64 q.tl, .int .i64 q.wi, .int .i64 q.ho] (0, 0) _ rfl (setRow_heap _ _ _ _ _ _ K1.out) Tryz.underlying23 rfl polInfo) rfl ⟨rfl, (MM.out.setRow 1 rfl).below⟩
  · have z1 := M1.out.cell 2 2 rfl rfl
    have z2 := M1.out.free 2 2 rfl
    go_enter Tryz.func19, Tryz.ntmps19
    go_upto_region 2 with fail
    rw [← hW]
    clear hW
    go_upto_region 15 with fail
    rw [show W.setCell ⟨w.heap.size + 1 + 1, 2, none⟩ (.int .i64 v) = W2 from HW2.out.symm]
    clear z1 z2 M1
    go_wp2_with (first | ((with_reducible refine wpList_load_rowAs rfl 23 _ rfl ((w.heap.size + 2)) ?_ 23 #[.int .i64 q.mn, .int .i64 q.mx, .int .i64 q.tg, .int .i64 q.tl, .int .i64 q.wi, .int .i64 q.ho] (0, 0) _ 6 ?_ Tryz.underlying23 rfl (by kernel_rfl) ?_ ?_); exact rfl; exact K2.out; exact rfl) | ((with_reducible refine wpList_store_rowAs rfl 23 _ _ rfl ((w.heap.size + 1)) #[.int .i64 q.mn, .int .i64 q.mx, .int .i64 q.tg, .int .i64 q.tl, .int .i64 q.wi, .int .i64 q.ho] ?_ ?_ 23 #[.int .i64 0, .int .i64 0, .int .i64 0, .int .i64 0, .int .i64 0, .int .i64 0] 6 ?_ (by kernel_rfl) rfl rfl (by simp [Value.oneCell']) ?_); exact rfl; exact rfl; exact K1.out))
    exact bodyPost_ret (results_cell_row rfl _ _ (w.heap.size + 1) 23 #[.int .i64 q.mn, .int .i64 q.mx, .int .i64 q.tg, .int .i64 q.tl, .int .i64 q.wi, .int .i64 q.ho] (0, 0) _ rfl (setRow_heap _ _ _ _ _ _ K1.out) Tryz.underlying23 rfl polInfo) rfl ⟨rfl, (MM.out.setRow 1 rfl).below⟩
  · have z1 := M1.out.cell 2 3 rfl rfl
    have z2 := M1.out.free 2 3 rfl
    go_enter Tryz.func19, Tryz.ntmps19
    go_upto_region 2 with fail
    rw [← hW]
    clear hW
    go_upto_region 15 with fail
    rw [show W.setCell ⟨w.heap.size + 1 + 1, 3, none⟩ (.int .i64 v) = W2 from HW2.out.symm]
    clear z1 z2 M1
    go_wp2_with (first | ((with_reducible refine wpList_load_rowAs rfl 23 _ rfl ((w.heap.size + 2)) ?_ 23 #[.int .i64 q.mn, .int .i64 q.mx, .int .i64 q.tg, .int .i64 q.tl, .int .i64 q.wi, .int .i64 q.ho] (0, 0) _ 6 ?_ Tryz.underlying23 rfl (by kernel_rfl) ?_ ?_); exact rfl; exact K2.out; exact rfl) | ((with_reducible refine wpList_store_rowAs rfl 23 _ _ rfl ((w.heap.size + 1)) #[.int .i64 q.mn, .int .i64 q.mx, .int .i64 q.tg, .int .i64 q.tl, .int .i64 q.wi, .int .i64 q.ho] ?_ ?_ 23 #[.int .i64 0, .int .i64 0, .int .i64 0, .int .i64 0, .int .i64 0, .int .i64 0] 6 ?_ (by kernel_rfl) rfl rfl (by simp [Value.oneCell']) ?_); exact rfl; exact rfl; exact K1.out))
    exact bodyPost_ret (results_cell_row rfl _ _ (w.heap.size + 1) 23 #[.int .i64 q.mn, .int .i64 q.mx, .int .i64 q.tg, .int .i64 q.tl, .int .i64 q.wi, .int .i64 q.ho] (0, 0) _ rfl (setRow_heap _ _ _ _ _ _ K1.out) Tryz.underlying23 rfl polInfo) rfl ⟨rfl, (MM.out.setRow 1 rfl).below⟩
  · have z1 := M1.out.cell 2 4 rfl rfl
    have z2 := M1.out.free 2 4 rfl
    go_enter Tryz.func19, Tryz.ntmps19
    go_upto_region 2 with fail
    rw [← hW]
    clear hW
    go_upto_region 15 with fail
    rw [show W.setCell ⟨w.heap.size + 1 + 1, 4, none⟩ (.int .i64 v) = W2 from HW2.out.symm]
    clear z1 z2 M1
    go_wp2_with (first | ((with_reducible refine wpList_load_rowAs rfl 23 _ rfl ((w.heap.size + 2)) ?_ 23 #[.int .i64 q.mn, .int .i64 q.mx, .int .i64 q.tg, .int .i64 q.tl, .int .i64 q.wi, .int .i64 q.ho] (0, 0) _ 6 ?_ Tryz.underlying23 rfl (by kernel_rfl) ?_ ?_); exact rfl; exact K2.out; exact rfl) | ((with_reducible refine wpList_store_rowAs rfl 23 _ _ rfl ((w.heap.size + 1)) #[.int .i64 q.mn, .int .i64 q.mx, .int .i64 q.tg, .int .i64 q.tl, .int .i64 q.wi, .int .i64 q.ho] ?_ ?_ 23 #[.int .i64 0, .int .i64 0, .int .i64 0, .int .i64 0, .int .i64 0, .int .i64 0] 6 ?_ (by kernel_rfl) rfl rfl (by simp [Value.oneCell']) ?_); exact rfl; exact rfl; exact K1.out))
    exact bodyPost_ret (results_cell_row rfl _ _ (w.heap.size + 1) 23 #[.int .i64 q.mn, .int .i64 q.mx, .int .i64 q.tg, .int .i64 q.tl, .int .i64 q.wi, .int .i64 q.ho] (0, 0) _ rfl (setRow_heap _ _ _ _ _ _ K1.out) Tryz.underlying23 rfl polInfo) rfl ⟨rfl, (MM.out.setRow 1 rfl).below⟩
  · have z1 := M1.out.cell 2 5 rfl rfl
    have z2 := M1.out.free 2 5 rfl
    go_enter Tryz.func19, Tryz.ntmps19
    go_upto_region 2 with fail
    rw [← hW]
    clear hW
    go_upto_region 15 with fail
    rw [show W.setCell ⟨w.heap.size + 1 + 1, 5, none⟩ (.int .i64 v) = W2 from HW2.out.symm]
    clear z1 z2 M1
    go_wp2_with (first | ((with_reducible refine wpList_load_rowAs rfl 23 _ rfl ((w.heap.size + 2)) ?_ 23 #[.int .i64 q.mn, .int .i64 q.mx, .int .i64 q.tg, .int .i64 q.tl, .int .i64 q.wi, .int .i64 q.ho] (0, 0) _ 6 ?_ Tryz.underlying23 rfl (by kernel_rfl) ?_ ?_); exact rfl; exact K2.out; exact rfl) | ((with_reducible refine wpList_store_rowAs rfl 23 _ _ rfl ((w.heap.size + 1)) #[.int .i64 q.mn, .int .i64 q.mx, .int .i64 q.tg, .int .i64 q.tl, .int .i64 q.wi, .int .i64 q.ho] ?_ ?_ 23 #[.int .i64 0, .int .i64 0, .int .i64 0, .int .i64 0, .int .i64 0, .int .i64 0] 6 ?_ (by kernel_rfl) rfl rfl (by simp [Value.oneCell']) ?_); exact rfl; exact rfl; exact K1.out))
    exact bodyPost_ret (results_cell_row rfl _ _ (w.heap.size + 1) 23 #[.int .i64 q.mn, .int .i64 q.mx, .int .i64 q.tg, .int .i64 q.tl, .int .i64 q.wi, .int .i64 q.ho] (0, 0) _ rfl (setRow_heap _ _ _ _ _ _ K1.out) Tryz.underlying23 rfl polInfo) rfl ⟨rfl, (MM.out.setRow 1 rfl).below⟩

set_option maxHeartbeats 1000000 in
set_option maxRecDepth 100000 in
theorem ref45_with_out (q : Pol) (f : Int) (hf : f < 1 ∨ 6 < f) (v : Int) (w : World) :
    Calls Tryz.prog 19 #[.agg #[.int .i64 q.mn, .int .i64 q.mx, .int .i64 q.tg, .int .i64 q.tl, .int .i64 q.wi, .int .i64 q.ho], .int .i64 f, .int .i64 v] w fun e w' => e = .returned (.agg #[.int .i64 q.mn, .int .i64 q.mx, .int .i64 q.tg, .int .i64 q.tl, .int .i64 q.wi, .int .i64 q.ho]) ∧ Below w.heap.size w w' := by
  have b1 : (f == 1) = false := beq_eq_false_iff_ne.2 (by omega)
  have b2 : (f == 2) = false := beq_eq_false_iff_ne.2 (by omega)
  have b3 : (f == 3) = false := beq_eq_false_iff_ne.2 (by omega)
  have b4 : (f == 4) = false := beq_eq_false_iff_ne.2 (by omega)
  have b5 : (f == 5) = false := beq_eq_false_iff_ne.2 (by omega)
  have b6 : (f == 6) = false := beq_eq_false_iff_ne.2 (by omega)
  have n1 : ¬ f = 1 := by omega
  have n2 : ¬ f = 2 := by omega
  have n3 : ¬ f = 3 := by omega
  have n4 : ¬ f = 4 := by omega
  have n5 : ¬ f = 5 := by omega
  have n6 : ¬ f = 6 := by omega
  obtain ⟨W, hW⟩ : ∃ W, W = (((w.alloc (.cells #[.int .i64 q.mn, .int .i64 q.mx, .int .i64 q.tg, .int .i64 q.tl, .int .i64 q.wi, .int .i64 q.ho] 23)).alloc (.cells #[.int .i64 0, .int .i64 0, .int .i64 0, .int .i64 0, .int .i64 0, .int .i64 0] 23)).alloc (.cells #[.int .i64 q.mn, .int .i64 q.mx, .int .i64 q.tg, .int .i64 q.tl, .int .i64 q.wi, .int .i64 q.ho] 23)) := ⟨_, rfl⟩
  have MM : Hid (Mem w W [(w.heap.size, .cells #[.int .i64 q.mn, .int .i64 q.mx, .int .i64 q.tg, .int .i64 q.tl, .int .i64 q.wi, .int .i64 q.ho] 23), (w.heap.size + 1, .cells #[.int .i64 0, .int .i64 0, .int .i64 0, .int .i64 0, .int .i64 0, .int .i64 0] 23), (w.heap.size + 2, .cells #[.int .i64 q.mn, .int .i64 q.mx, .int .i64 q.tg, .int .i64 q.tl, .int .i64 q.wi, .int .i64 q.ho] 23)]) := by
    show Mem _ _ _
    rw [hW]
    exact (((Mem.start w).alloc _).allocAs (w.heap.size + 1) _ (by simp)).allocAs (w.heap.size + 2) _ (by simp)
  have K2 := Lib.hid (MM.out.heap 2 rfl)
  have K1 := Lib.hid (MM.out.heap 1 rfl)
  clear hf
  go_enter Tryz.func19, Tryz.ntmps19
  go_upto_region 2 with fail
  rw [← hW]
  clear hW
  go_wp2_with (first | ((with_reducible refine wpList_load_rowAs rfl 23 _ rfl ((w.heap.size + 2)) ?_ 23 #[.int .i64 q.mn, .int .i64 q.mx, .int .i64 q.tg, .int .i64 q.tl, .int .i64 q.wi, .int .i64 q.ho] (0, 0) _ 6 ?_ Tryz.underlying23 rfl (by kernel_rfl) ?_ ?_); exact rfl; exact K2.out; exact rfl) | ((with_reducible refine wpList_store_rowAs rfl 23 _ _ rfl ((w.heap.size + 1)) #[.int .i64 q.mn, .int .i64 q.mx, .int .i64 q.tg, .int .i64 q.tl, .int .i64 q.wi, .int .i64 q.ho] ?_ ?_ 23 #[.int .i64 0, .int .i64 0, .int .i64 0, .int .i64 0, .int .i64 0, .int .i64 0] 6 ?_ (by kernel_rfl) rfl rfl (by simp [Value.oneCell']) ?_); exact rfl; exact rfl; exact K1.out))
  exact bodyPost_ret (results_cell_row rfl _ _ (w.heap.size + 1) 23 #[.int .i64 q.mn, .int .i64 q.mx, .int .i64 q.tg, .int .i64 q.tl, .int .i64 q.wi, .int .i64 q.ho] (0, 0) _ rfl (setRow_heap _ _ _ _ _ _ K1.out) Tryz.underlying23 rfl polInfo) rfl ⟨rfl, (MM.out.setRow 1 rfl).below⟩

theorem ref45_with (p : Pol) (f v : Int) (w : World) :
    Calls Tryz.prog 19 #[.agg #[.int .i64 p.mn, .int .i64 p.mx, .int .i64 p.tg, .int .i64 p.tl, .int .i64 p.wi, .int .i64 p.ho], .int .i64 f, .int .i64 v] w fun e w' => e = .returned (.agg #[.int .i64 (Pol.with p f v).mn, .int .i64 (Pol.with p f v).mx, .int .i64 (Pol.with p f v).tg, .int .i64 (Pol.with p f v).tl, .int .i64 (Pol.with p f v).wi, .int .i64 (Pol.with p f v).ho]) ∧ Below w.heap.size w w' := by
  by_cases hf : f < 1 ∨ 6 < f
  · rw [Pol.with_out hf]
    exact ref45_with_out p f hf v w
  · obtain ⟨j, rfl⟩ : ∃ j : Nat, f = (j : Int) + 1 := ⟨(f - 1).toNat, by omega⟩
    have hj : j < 6 := by omega
    refine ref45_with_in p j hj v (Pol.with p ((j : Int) + 1) v) ?_ w
    match j, hj with
    | 0, _ => rfl
    | 1, _ => rfl
    | 2, _ => rfl
    | 3, _ => rfl
    | 4, _ => rfl
    | 5, _ => rfl
theorem pol_equal_yes (p : Pol) (w : World) : (Op.equalIn 10000 23 (.agg #[.int .i64 p.mn, .int .i64 p.mx, .int .i64 p.tg, .int .i64 p.tl, .int .i64 p.wi, .int .i64 p.ho]) (.agg #[.int .i64 p.mn, .int .i64 p.mx, .int .i64 p.tg, .int .i64 p.tl, .int .i64 p.wi, .int .i64 p.ho])).run Tryz.prog w = .ok true w := by
  simp [go_sem]
end Go.Proofs.YtildjnibdappnaaGreat
