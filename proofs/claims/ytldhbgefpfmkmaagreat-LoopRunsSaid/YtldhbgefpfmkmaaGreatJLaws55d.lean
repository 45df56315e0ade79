/- Layer 55: the law, walked: what happens, tick by tick, or why nothing does. -/
import Derived.Test.YtldhbgefpfmkmaaGreatJLoopR
import Derived.Test.YtldhbgefpfmkmaaGreatJLoopK
namespace Go.Proofs.YtldhbgefpfmkmaaGreat
open Go.ChangeShapes Go.WideShapes Go.ChangeAt Go.RowKit

theorem LS.at_congr (p : Pol) (C D : Nat → Int) : ∀ T, (∀ i, i < T → C i = D i) → LS.at p C T = LS.at p D T
  | 0, _ => rfl
  | T + 1, h => by
    show LS.step p (C T) T (LS.at p C T) = LS.step p (D T) T (LS.at p D T)
    rw [LS.at_congr p C D T (fun i hi => h i (by omega)), h T (by omega)]
theorem row_equal_yesR (a : Adv) (w : World) : (Op.equalIn 10000 40 (.agg #[.int .i64 a.tick, .int .i64 a.load, .int .i64 a.want, .int .i64 a.repl, .int .i64 a.why]) (.agg #[.int .i64 a.tick, .int .i64 a.load, .int .i64 a.want, .int .i64 a.repl, .int .i64 a.why])).run Tryz.prog w = .ok true w := by
  simp [go_sem]

section
variable (p : Pol) (hp : p.In) (ticks : Int) (q : Option Addr) (cap : Nat) (l : List Adv) (hl : ∀ a ∈ l, a.In) (w : World) (hs : Advs w q l)
set_option maxHeartbeats 1000000 in
set_option maxRecDepth 100000 in
theorem loopRuns_out (n : Nat) (hb : n ≤ 9223372036854775807) (h : 6 < n ∨ 40 < ticks ∧ ticks ≤ 1024) :
    Calls Tryz.prog 3 #[.agg #[.int .i64 p.mn, .int .i64 p.mx, .int .i64 p.tg, .int .i64 p.tl, .int .i64 p.wi, .int .i64 p.ho], .int .i64 ticks, .slice q n cap] w fun e w' => e = .returned (.bool true) ∧ Below w.heap.size w w' := by
  by_cases h1 : 6 < n
  · have d1 : decide ((6 : Int) < n) = true := decide_eq_true (by omega)
    clear h
    go_enter Tryz.func3, Tryz.ntmps3
    go_wp2_with fail
    (with_reducible refine (awake55 _).mono ?_)
    rintro e w1 ⟨rfl, hb1⟩
    have HB := Lib.hid ((below1 w (.cells #[.int .i64 p.mn, .int .i64 p.mx, .int .i64 p.tg, .int .i64 p.tl, .int .i64 p.wi, .int .i64 p.ho] 23)).trans (hb1.mono (below1 w _).size))
    clear hb1
    go_wp2
    go_ret
    exact ⟨rfl, HB.out⟩
  have d1 : decide ((6 : Int) < n) = false := decide_eq_false (by omega)
  have h2 : 40 < ticks := by omega
  have h3 : ticks ≤ 1024 := by omega
  clear h
  go_enter Tryz.func3, Tryz.ntmps3
  go_wp2_with fail
  (with_reducible refine (awake55 _).mono ?_)
  rintro e w1 ⟨rfl, hb1⟩
  have HB := Lib.hid ((below1 w (.cells #[.int .i64 p.mn, .int .i64 p.mx, .int .i64 p.tg, .int .i64 p.tl, .int .i64 p.wi, .int .i64 p.ho] 23)).trans (hb1.mono (below1 w _).size))
  clear hb1
  go_wp2
  go_ret
  exact ⟨rfl, HB.out⟩

include hs in
set_option maxHeartbeats 2000000 in
set_option maxRecDepth 100000 in
theorem loopRuns_bad (n : Nat) (en : l.length = n) (h1 : n ≤ 6) (h2 : ¬ (40 < ticks ∧ ticks ≤ 1024)) (he : Lp.err p ticks l ≠ 0) :
    Calls Tryz.prog 3 #[.agg #[.int .i64 p.mn, .int .i64 p.mx, .int .i64 p.tg, .int .i64 p.tl, .int .i64 p.wi, .int .i64 p.ho], .int .i64 ticks, .slice q n cap] w fun e w' => e = .returned (.bool true) ∧ Below w.heap.size w w' := by
  have d1 : decide ((6 : Int) < n) = false := decide_eq_false (by omega)
  have hd : ¬ 40 < ticks ∨ (40 < ticks ∧ ¬ ticks ≤ 1024) := by omega
  have C := Lib.hid (fun W h => ref55_check p ticks q cap n l en (by omega) W h)
  have C2 := Lib.hid (fun q2 c2 W h => loop_check p ticks q2 c2 n l en (by omega) W h)
  have R := Lib.hid (fun q2 c2 W h => loop_run_bad p ticks q2 c2 n l en (by omega) he W h)
  have SH := Lib.hid (fun W h => law55_shapes q cap n l en (by omega) W h)
  obtain ⟨er, eer⟩ : ∃ x, x = Lp.err p ticks l := ⟨_, rfl⟩
  rw [← eer] at C C2 R he
  have heb : (er == 0) = false := beq_eq_false_iff_ne.2 he
  have HS := Lib.hid hs
  have EN := Lib.hid en
  clear eer he hs en h2
  rcases hd with hd | ⟨hd, hd2⟩
  · go_enter Tryz.func3, Tryz.ntmps3
    go_wp2_with fail
    (with_reducible refine (awake55 _).mono ?_)
    rintro e w1 ⟨rfl, hb1⟩
    have M1 := Lib.hid (((Mem.start w).alloc (.cells #[.int .i64 p.mn, .int .i64 p.mx, .int .i64 p.tg, .int .i64 p.tl, .int .i64 p.wi, .int .i64 p.ho] 23)).call hb1)
    clear hb1
    go_wp2_with fail
    (with_reducible refine (SH.out _ (HS.out.below M1.out.below)).mono ?_)
    rintro e w2 ⟨u2, rfl, ho2, hb2⟩
    obtain ⟨p2, c2, e2, _, ha2⟩ := advs_of_owns (l := l) (by rw [EN.out]; exact ho2)
    rw [EN.out] at e2
    subst e2
    have M2 := Lib.hid (M1.out.call hb2)
    have A2 := Lib.hid ha2
    have K2 := Lib.hid (M2.out.heap 0 rfl)
    clear hb2 ho2 ha2 M1 SH
    go_wp2_with ((with_reducible refine wpList_load_rowAs rfl 23 _ rfl (w.heap.size) ?_ 23 #[.int .i64 p.mn, .int .i64 p.mx, .int .i64 p.tg, .int .i64 p.tl, .int .i64 p.wi, .int .i64 p.ho] (0, 0) _ 6 ?_ Tryz.underlying23 rfl (by kernel_rfl) ?_ ?_); exact rfl; exact K2.out; exact rfl)
    (with_reducible refine (R.out p2 c2 w2 A2.out).mono ?_)
    rintro e w3 ⟨rfl, hb3⟩
    have M3 := Lib.hid (M2.out.call hb3)
    have A23 := Lib.hid (A2.out.below hb3)
    have K3 := Lib.hid (M3.out.heap 0 rfl)
    clear hb3 M2 A2 K2 R
    go_wp2_with ((with_reducible refine wpList_load_rowAs rfl 23 _ rfl (w.heap.size) ?_ 23 #[.int .i64 p.mn, .int .i64 p.mx, .int .i64 p.tg, .int .i64 p.tl, .int .i64 p.wi, .int .i64 p.ho] (0, 0) _ 6 ?_ Tryz.underlying23 rfl (by kernel_rfl) ?_ ?_); exact rfl; exact K3.out; exact rfl)
    (with_reducible refine (C.out _ (HS.out.below M3.out.below)).mono ?_)
    rintro e w4 ⟨rfl, hb4⟩
    have M4 := Lib.hid (M3.out.call hb4)
    have A24 := Lib.hid (A23.out.below hb4)
    have K4 := Lib.hid (M4.out.heap 0 rfl)
    clear hb4 M3 A23 K3 C
    go_wp2_with ((with_reducible refine wpList_load_rowG ?_ 23 _ rfl (w.heap.size) ?_ 23 #[.int .i64 p.mn, .int .i64 p.mx, .int .i64 p.tg, .int .i64 p.tl, .int .i64 p.wi, .int .i64 p.ho] (0, 0) _ 6 ?_ Tryz.underlying23 rfl (by kernel_rfl) ?_ ?_); kernel_rfl; exact rfl; exact K4.out; exact rfl)
    (with_reducible refine (C2.out p2 c2 w4 A24.out).mono ?_)
    rintro e w5 ⟨rfl, hb5⟩
    have M5 := Lib.hid (M4.out.call hb5)
    have A25 := Lib.hid (A24.out.below hb5)
    have K5 := Lib.hid (M5.out.heap 0 rfl)
    clear hb5 M4 A24 K4
    go_wp2_with ((with_reducible refine wpList_load_rowG ?_ 23 _ rfl (w.heap.size) ?_ 23 #[.int .i64 p.mn, .int .i64 p.mx, .int .i64 p.tg, .int .i64 p.tl, .int .i64 p.wi, .int .i64 p.ho] (0, 0) _ 6 ?_ Tryz.underlying23 rfl (by kernel_rfl) ?_ ?_); kernel_rfl; exact rfl; exact K5.out; exact rfl)
    (with_reducible refine (C2.out p2 c2 w5 A25.out).mono ?_)
    rintro e w6 ⟨rfl, hb6⟩
    have HB := Lib.hid (M5.out.call hb6).below
    clear hb6 M5 A25 K5
    go_wp2
    go_ret
    exact ⟨rfl, HB.out⟩
  · go_enter Tryz.func3, Tryz.ntmps3
    go_wp2_with fail
    (with_reducible refine (awake55 _).mono ?_)
    rintro e w1 ⟨rfl, hb1⟩
    have M1 := Lib.hid (((Mem.start w).alloc (.cells #[.int .i64 p.mn, .int .i64 p.mx, .int .i64 p.tg, .int .i64 p.tl, .int .i64 p.wi, .int .i64 p.ho] 23)).call hb1)
    clear hb1
    go_wp2_with fail
    (with_reducible refine (SH.out _ (HS.out.below M1.out.below)).mono ?_)
    rintro e w2 ⟨u2, rfl, ho2, hb2⟩
    obtain ⟨p2, c2, e2, _, ha2⟩ := advs_of_owns (l := l) (by rw [EN.out]; exact ho2)
    rw [EN.out] at e2
    subst e2
    have M2 := Lib.hid (M1.out.call hb2)
    have A2 := Lib.hid ha2
    have K2 := Lib.hid (M2.out.heap 0 rfl)
    clear hb2 ho2 ha2 M1 SH
    go_wp2_with ((with_reducible refine wpList_load_rowAs rfl 23 _ rfl (w.heap.size) ?_ 23 #[.int .i64 p.mn, .int .i64 p.mx, .int .i64 p.tg, .int .i64 p.tl, .int .i64 p.wi, .int .i64 p.ho] (0, 0) _ 6 ?_ Tryz.underlying23 rfl (by kernel_rfl) ?_ ?_); exact rfl; exact K2.out; exact rfl)
    (with_reducible refine (R.out p2 c2 w2 A2.out).mono ?_)
    rintro e w3 ⟨rfl, hb3⟩
    have M3 := Lib.hid (M2.out.call hb3)
    have A23 := Lib.hid (A2.out.below hb3)
    have K3 := Lib.hid (M3.out.heap 0 rfl)
    clear hb3 M2 A2 K2 R
    go_wp2_with ((with_reducible refine wpList_load_rowAs rfl 23 _ rfl (w.heap.size) ?_ 23 #[.int .i64 p.mn, .int .i64 p.mx, .int .i64 p.tg, .int .i64 p.tl, .int .i64 p.wi, .int .i64 p.ho] (0, 0) _ 6 ?_ Tryz.underlying23 rfl (by kernel_rfl) ?_ ?_); exact rfl; exact K3.out; exact rfl)
    (with_reducible refine (C.out _ (HS.out.below M3.out.below)).mono ?_)
    rintro e w4 ⟨rfl, hb4⟩
    have M4 := Lib.hid (M3.out.call hb4)
    have A24 := Lib.hid (A23.out.below hb4)
    have K4 := Lib.hid (M4.out.heap 0 rfl)
    clear hb4 M3 A23 K3 C
    go_wp2_with ((with_reducible refine wpList_load_rowG ?_ 23 _ rfl (w.heap.size) ?_ 23 #[.int .i64 p.mn, .int .i64 p.mx, .int .i64 p.tg, .int .i64 p.tl, .int .i64 p.wi, .int .i64 p.ho] (0, 0) _ 6 ?_ Tryz.underlying23 rfl (by kernel_rfl) ?_ ?_); kernel_rfl; exact rfl; exact K4.out; exact rfl)
    (with_reducible refine (C2.out p2 c2 w4 A24.out).mono ?_)
    rintro e w5 ⟨rfl, hb5⟩
    have M5 := Lib.hid (M4.out.call hb5)
    have A25 := Lib.hid (A24.out.below hb5)
    have K5 := Lib.hid (M5.out.heap 0 rfl)
    clear hb5 M4 A24 K4
    go_wp2_with ((with_reducible refine wpList_load_rowG ?_ 23 _ rfl (w.heap.size) ?_ 23 #[.int .i64 p.mn, .int .i64 p.mx, .int .i64 p.tg, .int .i64 p.tl, .int .i64 p.wi, .int .i64 p.ho] (0, 0) _ 6 ?_ Tryz.underlying23 rfl (by kernel_rfl) ?_ ?_); kernel_rfl; exact rfl; exact K5.out; exact rfl)
    (with_reducible refine (C2.out p2 c2 w5 A25.out).mono ?_)
    rintro e w6 ⟨rfl, hb6⟩
    have HB := Lib.hid (M5.out.call hb6).below
    clear hb6 M5 A25 K5
    go_wp2
    go_ret
    exact ⟨rfl, HB.out⟩

include hp hl hs in
set_option maxHeartbeats 8000000 in
set_option maxRecDepth 100000 in
theorem loopRuns_good (n T : Nat) (en : l.length = n) (h1 : n ≤ 6) (h3 : T ≤ 40) (he : Lp.err p T l = 0) :
    Calls Tryz.prog 3 #[.agg #[.int .i64 p.mn, .int .i64 p.mx, .int .i64 p.tg, .int .i64 p.tl, .int .i64 p.wi, .int .i64 p.ho], .int .i64 T, .slice q n cap] w fun e w' => e = .returned (.bool true) ∧ Below w.heap.size w w' := by
  obtain ⟨hok, hz, _, _⟩ := Lp.err_ok he
  have hgood := LS.good_at p hp hok (fun i => Shp.sum l i) (fun i => Shp.sum_in l i) T (by omega)
  have hrlen := hgood.rows
  have hrin := hgood.rowsIn
  obtain ⟨L, eL⟩ : ∃ L : List Int, L = (List.range T).map (fun i : Nat => Shp.sum l i) := ⟨_, rfl⟩
  have hLl : L.length = T := by rw [eL, List.length_map, List.length_range]
  have hLg : ∀ i, i < T → L[i]?.getD 0 = Shp.sum l i := fun i hi => by
    rw [eL, List.getElem?_map, List.getElem?_range hi]; rfl
  have hL : ∀ i : Nat, 0 ≤ L[i]?.getD 0 ∧ L[i]?.getD 0 ≤ 9223372036854775807 := fun i => by
    by_cases hi : i < T
    · rw [hLg i hi]; exact Shp.sum_in l i
    · rw [List.getElem?_eq_none (by omega)]; simp
  have hcg := LS.at_congr p (fun i => L[i]?.getD 0) (fun i => Shp.sum l i) T hLg
  have RR := fun (q2 : Option Addr) (c2 : Nat) W h => ref55_run p hp hok q2 c2 T L hLl (by omega) hL W h
  rw [hcg] at RR
  have C := fun W h => ref55_check p T q cap n l en (by omega) W h
  have C2 := fun (q2 : Option Addr) (c2 : Nat) W h => loop_check p T q2 c2 n l en (by omega) W h
  rw [he] at C C2
  have C := Lib.hid C
  have C2 := Lib.hid C2
  have R := fun (q2 : Option Addr) (c2 : Nat) W h => loop_run_good p hp T (by omega) q2 c2 n l hl en (by omega) he W h
  have SH := Lib.hid (fun W h => law55_shapes q cap n l en (by omega) W h)
  have HSUM := Lib.hid (fun (q2 : Option Addr) (c2 : Nat) (t : Int) (ht : I64 t) W h => shp_sum q2 c2 n l en hl (by omega) t ht W h)
  have HTK : Hid (∀ k, k < T → intVals (L.take (k + 1)) = intVals (L.take k) ++ [.int .i64 (Shp.sum l k)]) := fun k hk => by
    rw [List.take_succ_eq_append_getElem (by omega), intVals_append, ← hLg k hk, List.getElem?_eq_getElem (by omega)]
    rfl
  have HTF : Hid (L.take T = L) := by show _ = _; rw [← hLl]; exact List.take_length
  obtain ⟨rows, erows⟩ : ∃ x, x = (LS.at p (fun i => Shp.sum l i) T).rows := ⟨_, rfl⟩
  simp only [← erows] at RR R hrlen hrin
  have RR := Lib.hid RR
  have R := Lib.hid R
  have HRIN := Lib.hid hrin
  have HRL := Lib.hid hrlen
  have HLL := Lib.hid hLl
  have HS := Lib.hid hs
  have EN := Lib.hid en
  have d1 : decide ((6 : Int) < n) = false := decide_eq_false (by omega)
  clear hs hl en eL hLl hLg hL hcg erows hz hgood hrlen hrin he hok hp
  go_enter Tryz.func3, Tryz.ntmps3
  go_wp2_with fail
  (with_reducible refine (awake55 _).mono ?_)
  rintro e w1 ⟨rfl, hb1⟩
  have M1 := Lib.hid (((Mem.start w).alloc (.cells #[.int .i64 p.mn, .int .i64 p.mx, .int .i64 p.tg, .int .i64 p.tl, .int .i64 p.wi, .int .i64 p.ho] 23)).call hb1)
  clear hb1
  go_wp2_with fail
  (with_reducible refine (SH.out _ (HS.out.below M1.out.below)).mono ?_)
  rintro e w2 ⟨u2, rfl, ho2, hb2⟩
  obtain ⟨p2, c2, e2, _, ha2⟩ := advs_of_owns (l := l) (by rw [EN.out]; exact ho2)
  rw [EN.out] at e2
  subst e2
  have M2 := Lib.hid (M1.out.call hb2)
  have A2 := Lib.hid ha2
  have OB2 : Hid (∀ b, (Value.slice p2 n c2).ownBlock = some b → b < w2.heap.size) := fun b h => (ho2.lt b h).2
  have K2 := Lib.hid (M2.out.heap 0 rfl)
  clear hb2 ho2 ha2 M1 SH
  go_wp2_with ((with_reducible refine wpList_load_rowAs rfl 23 _ rfl (w.heap.size) ?_ 23 #[.int .i64 p.mn, .int .i64 p.mx, .int .i64 p.tg, .int .i64 p.tl, .int .i64 p.wi, .int .i64 p.ho] (0, 0) _ 6 ?_ Tryz.underlying23 rfl (by kernel_rfl) ?_ ?_); exact rfl; exact K2.out; exact rfl)
  (with_reducible refine (R.out p2 c2 w2 A2.out).mono ?_)
  rintro e w3 ⟨u3, rfl, ho3, hb3⟩
  obtain ⟨p3, c3, e3, _, ha3⟩ := advs_of_owns (l := rows) (by rw [HRL.out]; exact ho3)
  rw [HRL.out] at e3
  subst e3
  have M3 := Lib.hid (M2.out.call hb3)
  have A3 := Lib.hid ha3
  have OB3 : Hid (∀ b, (Value.slice p3 T c3).ownBlock = some b → b < w3.heap.size) := fun b h => (ho3.lt b h).2
  have HS23 : Hid (w2.heap.size ≤ w3.heap.size) := hb3.size
  have A23 := Lib.hid (A2.out.below hb3)
  have K3 := Lib.hid (M3.out.heap 0 rfl)
  clear hb3 ho3 ha3 M2 A2 K2 R
  go_wp2_with ((with_reducible refine wpList_load_rowAs rfl 23 _ rfl (w.heap.size) ?_ 23 #[.int .i64 p.mn, .int .i64 p.mx, .int .i64 p.tg, .int .i64 p.tl, .int .i64 p.wi, .int .i64 p.ho] (0, 0) _ 6 ?_ Tryz.underlying23 rfl (by kernel_rfl) ?_ ?_); exact rfl; exact K3.out; exact rfl)
  (with_reducible refine (C.out _ (HS.out.below M3.out.below)).mono ?_)
  rintro e w4 ⟨rfl, hb4⟩
  have M4 := Lib.hid (M3.out.call hb4)
  have A34 := Lib.hid (A3.out.below hb4)
  have HS34 : Hid (w3.heap.size ≤ w4.heap.size) := hb4.size
  have A24 := Lib.hid (A23.out.below hb4)
  have K4 := Lib.hid (M4.out.heap 0 rfl)
  clear hb4 M3 A3 A23 K3 C
  go_wp2_with ((with_reducible refine wpList_load_rowG ?_ 23 _ rfl (w.heap.size) ?_ 23 #[.int .i64 p.mn, .int .i64 p.mx, .int .i64 p.tg, .int .i64 p.tl, .int .i64 p.wi, .int .i64 p.ho] (0, 0) _ 6 ?_ Tryz.underlying23 rfl (by kernel_rfl) ?_ ?_); kernel_rfl; exact rfl; exact K4.out; exact rfl)
  (with_reducible refine (C2.out p2 c2 w4 A24.out).mono ?_)
  rintro e w5 ⟨rfl, hb5⟩
  have M5 := Lib.hid (M4.out.call hb5)
  have A35 := Lib.hid (A34.out.below hb5)
  have HS35 : Hid (w3.heap.size ≤ w5.heap.size) := by show _ ≤ _; have h1 := hb5.size; have h2 := HS34.out; omega
  have HS25 : Hid (w2.heap.size ≤ w5.heap.size) := by show _ ≤ _; have h1 := HS35.out; have h2 := HS23.out; omega
  have A25 := Lib.hid (A24.out.below hb5)
  clear hb5 M4 A34 A24 K4 C2
  go_wp2
  go_loopw [11, 12] (fun a i wr => ∃ (k : Nat) (u : Value), k ≤ T ∧ i = .int .i64 (k : Nat) ∧ a = u ∧ Owns wr w.heap.size 1 u k (intVals (L.take k)) ∧ Mem w wr [(w.heap.size, .cells #[.int .i64 p.mn, .int .i64 p.mx, .int .i64 p.tg, .int .i64 p.tl, .int .i64 p.wi, .int .i64 p.ho] 23)] ∧ (∀ b, u.ownBlock = some b → w.heap.size + 1 ≤ b ∧ (Value.slice p2 n c2).ownBlock ≠ some b ∧ (Value.slice p3 T c3).ownBlock ≠ some b) ∧ (∀ b, ((Value.slice p2 n c2).ownBlock = some b ∨ (Value.slice p3 T c3).ownBlock = some b) → b < wr.heap.size) ∧ Advs wr p2 l ∧ Advs wr p3 rows) (fun _ i _ => T - (intOf i).toNat)
  case atStart => exact ⟨0, _, by omega, rfl, rfl, owns_nil _ _ _, M5.out, fun b h => by simp [Value.ownBlock] at h, fun b h => by rcases h with h | h; exact Nat.lt_of_lt_of_le (OB2.out b h) (by have := HS25.out; omega); exact Nat.lt_of_lt_of_le (OB3.out b h) (by have := HS35.out; omega), A25.out, A35.out⟩
  case round =>
    obtain ⟨k, u, hk, rfl, rfl, hO, hM, hX, hSZ, hA2, hA3⟩ := hrel
    clear M5 A35 A25
    by_cases hlt : k < T
    · have P := HSUM.out p2 c2 k ⟨by omega, by omega⟩ wr hA2
      have htk := HTK.out k hlt
      obtain ⟨v, ev⟩ : ∃ v, v = Shp.sum l k := ⟨_, rfl⟩
      rw [← ev] at P htk
      have P := Lib.hid P
      have HTK2 := Lib.hid htk
      have hkn : (k : Int) < T := by omega
      obtain ⟨pu, cu, eu, _⟩ := hO.sl
      subst eu
      have O1 := Lib.hid hO
      have MM := Lib.hid hM
      have AA2 := Lib.hid hA2
      have AA3 := Lib.hid hA3
      have XX := Lib.hid hX
      have SZ := Lib.hid hSZ
      clear ev htk hO hM hA2 hA3 hX hSZ
      go_wp2_with fail
      (with_reducible refine P.out.mono ?_)
      rintro e w6 ⟨rfl, hb6⟩
      have O6 := Lib.hid (O1.out.below hb6)
      have M6 := Lib.hid (MM.out.call hb6)
      have A62 := Lib.hid (AA2.out.below hb6)
      have A63 := Lib.hid (AA3.out.below hb6)
      have HL6 : Hid (∀ b, ((Value.slice p2 n c2).ownBlock = some b ∨ (Value.slice p3 T c3).ownBlock = some b) → b < w6.heap.size) := fun b h => Nat.lt_of_lt_of_le (SZ.out b h) hb6.size
      have hBW : w.heap.size ≤ w6.heap.size := M6.out.below.size
      have hlt6 : w.heap.size + 1 ≤ w6.heap.size := by have := M6.out.lt (i := 0) rfl; omega
      have hmxl : k + 1 ≤ maxLen := by unfold maxLen; omega
      have hbyt : (k + 1) * 8 ≤ 140737488355328 := by omega
      clear hb6 P O1 MM AA2 AA3
      go_wp2_with (at_builtin; refine wpList_append_new2 rfl _ _ 34 rfl _ _ 2 rfl w.heap.size 2 (.int .i64 0) 1 8 Tryz.underlying34 i64Info rfl (by decide) (.slice pu k cu) k (intVals (L.take k)) rfl O6.out rfl rfl (by intro u hu; simp at hu; subst hu; rfl) hmxl hbyt hBW ?_; intro u8 x8 ha8 hg8 hb8 hw8; have HA8 := Lib.hid ha8; have HG8 := Lib.hid hg8; have HW8 := Lib.hid hw8; clear ha8 hg8 hb8 hw8)
      have hT8 : Turned (fun y => (Value.slice pu k cu).ownBlock = some y) w6 x8 := Turned.refl.grown HG8.out (fun y hy _ => hy)
      have hM8 := M6.out.turnedF hT8 (fun y hy => ⟨by have := (XX.out y hy).1; omega, fun i o hi => by have := (XX.out y hy).1; rcases i with _ | i <;> simp at hi; omega⟩)
      have hA8 := A62.out.turnedF hT8 (fun ad had e => (XX.out _ e).2.1 (by rw [had]; rfl))
      have hA9 := A63.out.turnedF hT8 (fun ad had e => (XX.out _ e).2.2 (by rw [had]; rfl))
      exact ⟨⟨k + 1, u8, by omega, by go_num, rfl, by rw [HTK2.out]; exact HA8.out, hM8, fun b hb => by
        rcases HW8.out with h | h
        · exact XX.out b (h ▸ hb)
        · have h1 := h b hb
          exact ⟨by omega, fun e => by have := HL6.out b (.inl e); omega, fun e => by have := HL6.out b (.inr e); omega⟩, fun b h => Nat.lt_of_lt_of_le (HL6.out b h) hT8.size, hA8, hA9⟩, by simp [intOf]; omega⟩
    · obtain rfl : k = T := by omega
      have ho := hO
      rw [HTF.out] at ho
      obtain ⟨p7, c7, e7, _, hi7⟩ := ints_of_owns (l := L) (by rw [HLL.out]; exact ho)
      rw [HLL.out] at e7
      subst e7
      have P := Lib.hid (RR.out p7 c7 wr hi7)
      have MM := Lib.hid hM
      have AA3 := Lib.hid hA3
      have K7 := Lib.hid (hM.heap 0 rfl)
      clear hO ho hi7 hM hX hSZ hA2 hA3 HTK HTF HSUM
      go_wp2_with ((with_reducible refine wpList_load_rowAs rfl 23 _ rfl (w.heap.size) ?_ 23 #[.int .i64 p.mn, .int .i64 p.mx, .int .i64 p.tg, .int .i64 p.tl, .int .i64 p.wi, .int .i64 p.ho] (0, 0) _ 6 ?_ Tryz.underlying23 rfl (by kernel_rfl) ?_ ?_); exact rfl; exact K7.out; exact rfl)
      (with_reducible refine P.out.mono ?_)
      rintro e w8 ⟨u8, rfl, ho8, hb8⟩
      obtain ⟨p8, c8, e8, _, ha8⟩ := advs_of_owns (l := rows) (by rw [HRL.out]; exact ho8)
      rw [HRL.out] at e8
      subst e8
      have M8 := Lib.hid (MM.out.call hb8)
      have A83 := Lib.hid (AA3.out.below hb8)
      have A88 := Lib.hid ha8
      clear hb8 ho8 ha8 MM AA3 K7 P
      go_wp2
      go_loopw [94] (fun i wr => ∃ j : Nat, j ≤ k ∧ i = .int .i64 (j : Nat) ∧ Mem w wr [(w.heap.size, .cells #[.int .i64 p.mn, .int .i64 p.mx, .int .i64 p.tg, .int .i64 p.tl, .int .i64 p.wi, .int .i64 p.ho] 23)] ∧ Advs wr p3 rows ∧ Advs wr p8 rows) (fun i _ => k - (intOf i).toNat)
      case atStart => exact ⟨0, by omega, rfl, M8.out, A83.out, A88.out⟩
      case round =>
        obtain ⟨j, hj, rfl, hM, hA3, hA8⟩ := hrel
        clear M8 A83 A88
        by_cases hlt2 : j < k
        · have hjl : j < rows.length := by have := HRL.out; omega
          obtain ⟨bq, off, rfl, hbw, c0, c1, c2, c3, c4⟩ := hA3.cells j hjl
          obtain ⟨b8, o8, rfl, hbw8, e0, e1, e2, e3, e4⟩ := hA8.cells j hjl
          have hin := HRIN.out (rows[j]?.getD default) (by rw [List.getElem?_eq_getElem hjl]; exact List.getElem_mem _)
          have HC8 : Hid (∀ W, Advs W (some ⟨b8, o8, none⟩) rows → W.cell? ⟨b8, o8 + j * 5, none⟩ = some (.int .i64 (rows[j]?.getD default).tick) ∧ W.cell? ⟨b8, o8 + j * 5 + 1, none⟩ = some (.int .i64 (rows[j]?.getD default).load) ∧ W.cell? ⟨b8, o8 + j * 5 + 2, none⟩ = some (.int .i64 (rows[j]?.getD default).want) ∧ W.cell? ⟨b8, o8 + j * 5 + 3, none⟩ = some (.int .i64 (rows[j]?.getD default).repl) ∧ W.cell? ⟨b8, o8 + j * 5 + 4, none⟩ = some (.int .i64 (rows[j]?.getD default).why)) := fun W h => by
            obtain ⟨b', o', e', _, a0, a1, a2, a3, a4⟩ := h.cells j hjl
            simp only [Option.some.injEq, Addr.mk.injEq, and_true] at e'
            obtain ⟨rfl, rfl⟩ := e'
            exact ⟨a0, a1, a2, a3, a4⟩
          obtain ⟨⟨x0, x1, x2, x3, x4⟩, ex⟩ : ∃ x, x = rows[j]?.getD default := ⟨_, rfl⟩
          rw [← ex] at c0 c1 c2 c3 c4 e0 e1 e2 e3 e4 hin
          simp only [← ex] at HC8
          simp only at c0 c1 c2 c3 c4 e0 e1 e2 e3 e4
          have hr1 : ¬ x2 < p.mn := by have := hin.2.1; simp only at this; omega
          have hr2 : ¬ p.mx < x2 := by have := hin.2.2; simp only at this; omega
          have hd1 : decide (x2 < p.mn) = false := decide_eq_false hr1
          have hd2 : decide (p.mx < x2) = false := decide_eq_false hr2
          have M9 := Lib.hid (hM.alloc (.cells #[.int .i64 x0, .int .i64 x1, .int .i64 x2, .int .i64 x3, .int .i64 x4] 39))
          have A93 := Lib.hid (hA3.below (below1 wr (.cells #[.int .i64 x0, .int .i64 x1, .int .i64 x2, .int .i64 x3, .int .i64 x4] 39)))
          have A98 := Lib.hid (hA8.below (below1 wr (.cells #[.int .i64 x0, .int .i64 x1, .int .i64 x2, .int .i64 x3, .int .i64 x4] 39)))
          have hjk : (j : Int) < k := by omega
          have HEQ := Lib.hid (row_equal_yesR ⟨x0, x1, x2, x3, x4⟩)
          have hst := stab_and (stab_mem (w := w) (bs := [(w.heap.size, .cells #[.int .i64 p.mn, .int .i64 p.mx, .int .i64 p.tg, .int .i64 p.tl, .int .i64 p.wi, .int .i64 p.ho] 23), (wr.heap.size, .cells #[.int .i64 x0, .int .i64 x1, .int .i64 x2, .int .i64 x3, .int .i64 x4] 39)])) (stab_and (stab_advs (q := some ⟨bq, off, none⟩) (l := rows)) (stab_advs (q := some ⟨b8, o8, none⟩) (l := rows)))
          clear hM hA3 hA8 ex hin e0 e1 e2 e3 e4
          go_wp2_with fail
          refine wp_region_E mixed [] hst ⟨M9.out.drewN 1, A93.out.below (below_drew (Below.refl _ _)), A98.out.below (below_drew (Below.refl _ _))⟩ ?_
          obtain ⟨X, hX⟩ : ∃ X, wr.heap.size = X := ⟨_, rfl⟩
          rw [hX] at hst ⊢
          clear hX M9 A93 A98 c0 c1 c2 c3 c4 hbw hbw8
          refine wpAnyE_take 0 (v := .agg #[.int .i64 x0, .int .i64 x1, .int .i64 x2, .int .i64 x3, .int .i64 x4]) rfl (by kernel_rfl) (by kernel_rfl) (by kernel_rfl) (fun _ _ _ h => h) hst (EffB.run rfl rfl (fun wd hS => ?_)) (.inl (by kernel_rfl)) ?_
          · exact wp_load_row 39 _ rfl (X) rfl 39 #[.int .i64 x0, .int .i64 x1, .int .i64 x2, .int .i64 x3, .int .i64 x4] (0, 0) _ (hS.1.heap 1 rfl) Tryz.underlying39 rfl (by kernel_rfl) ⟨rfl, Below.refl _ _⟩
          simp only [act_norm]
          refine wpAnyE_take 1 rfl (by kernel_rfl) (by kernel_rfl) (by kernel_rfl) (fun _ _ _ h => h) hst (EffB.pure rfl (fun _ => rfl)) (.inr (EffB.pure rfl (fun _ => rfl))) ?_
          simp only [act_norm]
          refine wpAnyE_take 2 rfl (by kernel_rfl) (by kernel_rfl) (by kernel_rfl) (fun _ _ _ h => h) hst (EffB.pure rfl (fun _ => rfl)) (.inr (EffB.pure rfl (fun _ => rfl))) ?_
          simp only [act_norm]
          refine wpAnyE_take 3 (v := .pointer (some ⟨b8, o8 + j * 5, none⟩)) rfl (by kernel_rfl) (by kernel_rfl) (by kernel_rfl) (fun _ _ _ h => h) hst (EffB.run rfl rfl (fun wd hS => ?_)) (.inr (EffB.run rfl rfl (fun wd hS => ?_))) ?_
          · (go_wp2; exact ⟨rfl, Below.refl _ _⟩)
          · (go_wp2; exact ⟨rfl, Below.refl _ _⟩)
          simp only [act_norm]
          refine wpAnyE_take 4 (v := .agg #[.int .i64 x0, .int .i64 x1, .int .i64 x2, .int .i64 x3, .int .i64 x4]) rfl (by kernel_rfl) (by kernel_rfl) (by kernel_rfl) (fun _ _ _ h => h) hst (EffB.run rfl rfl (fun wd hS => ?_)) (.inl (by kernel_rfl)) ?_
          · (obtain ⟨g0, g1, g2, g3, g4⟩ := HC8.out wd hS.2.2; go_wp2; exact ⟨rfl, Below.refl _ _⟩)
          simp only [act_norm]
          refine wpAnyE_take 5 (v := .bool false) rfl (by kernel_rfl) (by kernel_rfl) (by kernel_rfl) (fun _ _ _ h => h) hst (EffB.run rfl rfl (fun wd hS => ?_)) (.inl (by kernel_rfl)) ?_
          · exact wp_neq_agg _ _ _ _ rfl _ _ rfl rfl true (by kernel_rfl) (HEQ.out _) ⟨rfl, Below.refl _ _⟩
          simp only [act_norm]
          refine wpAnyE_take 6 rfl (by kernel_rfl) (by kernel_rfl) (by kernel_rfl) (fun _ _ _ h => h) hst (EffB.pure rfl (fun _ => rfl)) (.inr (EffB.pure rfl (fun _ => rfl))) ?_
          simp only [act_norm]
          refine wpAnyE_take 7 (v := .pointer (some ⟨X, 2, none⟩)) rfl (by kernel_rfl) (by kernel_rfl) (by kernel_rfl) (fun _ _ _ h => h) hst (EffB.run rfl rfl (fun wd hS => ?_)) (.inr (EffB.run rfl rfl (fun wd hS => ?_))) ?_
          · (go_wp2; exact ⟨rfl, Below.refl _ _⟩)
          · (go_wp2; exact ⟨rfl, Below.refl _ _⟩)
          simp only [act_norm]
          refine wpAnyE_take 8 (v := .int .i64 x2) rfl (by kernel_rfl) (by kernel_rfl) (by kernel_rfl) (fun _ _ _ h => h) hst (EffB.run rfl rfl (fun wd hS => ?_)) (.inl (by kernel_rfl)) ?_
          · (have c2 : wd.cell? ⟨X, 2, none⟩ = some (.int .i64 x2) := by rw [cell_of_row _ _ _ _ _ _ (hS.1.heap 1 rfl)]; rfl); go_wp2; exact ⟨rfl, Below.refl _ _⟩
          simp only [act_norm]
          refine wpAnyE_take 9 (v := .pointer (some ⟨w.heap.size, 0, none⟩)) rfl (by kernel_rfl) (by kernel_rfl) (by kernel_rfl) (fun _ _ _ h => h) hst (EffB.run rfl rfl (fun wd hS => ?_)) (.inr (EffB.run rfl rfl (fun wd hS => ?_))) ?_
          · (go_wp2; exact ⟨rfl, Below.refl _ _⟩)
          · (go_wp2; exact ⟨rfl, Below.refl _ _⟩)
          simp only [act_norm]
          refine wpAnyE_take 10 (v := .int .i64 p.mn) rfl (by kernel_rfl) (by kernel_rfl) (by kernel_rfl) (fun _ _ _ h => h) hst (EffB.run rfl rfl (fun wd hS => ?_)) (.inl (by kernel_rfl)) ?_
          · (have c2 : wd.cell? ⟨w.heap.size, 0, none⟩ = some (.int .i64 p.mn) := by rw [cell_of_row _ _ _ _ _ _ (hS.1.heap 0 rfl)]; rfl); go_wp2; exact ⟨rfl, Below.refl _ _⟩
          simp only [act_norm]
          refine wpAnyE_take 11 (v := .bool false) rfl (by kernel_rfl) (by kernel_rfl) (by kernel_rfl) (fun _ _ _ h => h) hst (EffB.run rfl rfl (fun wd hS => ?_)) (.inr (EffB.run rfl rfl (fun wd hS => ?_))) ?_
          · (go_wp2; exact ⟨rfl, Below.refl _ _⟩)
          · (go_wp2; exact ⟨rfl, Below.refl _ _⟩)
          simp only [act_norm]
          refine wpAnyE_take 12 (v := .bool false) rfl (by kernel_rfl) (by kernel_rfl) (by kernel_rfl) (fun _ _ _ h => h) hst (EffB.run rfl rfl (fun wd hS => ?_)) (.inr (EffB.run rfl rfl (fun wd hS => ?_))) ?_
          · (go_wp2; exact ⟨rfl, Below.refl _ _⟩)
          · (go_wp2; exact ⟨rfl, Below.refl _ _⟩)
          simp only [act_norm]
          refine wpAnyE_take 13 rfl (by kernel_rfl) (by kernel_rfl) (by kernel_rfl) (fun _ _ _ h => h) hst (EffB.pure rfl (fun _ => rfl)) (.inr (EffB.pure rfl (fun _ => rfl))) ?_
          simp only [act_norm]
          refine wpAnyE_take 14 (v := .pointer (some ⟨X, 2, none⟩)) rfl (by kernel_rfl) (by kernel_rfl) (by kernel_rfl) (fun _ _ _ h => h) hst (EffB.run rfl rfl (fun wd hS => ?_)) (.inr (EffB.run rfl rfl (fun wd hS => ?_))) ?_
          · (go_wp2; exact ⟨rfl, Below.refl _ _⟩)
          · (go_wp2; exact ⟨rfl, Below.refl _ _⟩)
          simp only [act_norm]
          refine wpAnyE_take 15 (v := .int .i64 x2) rfl (by kernel_rfl) (by kernel_rfl) (by kernel_rfl) (fun _ _ _ h => h) hst (EffB.run rfl rfl (fun wd hS => ?_)) (.inl (by kernel_rfl)) ?_
          · (have c2 : wd.cell? ⟨X, 2, none⟩ = some (.int .i64 x2) := by rw [cell_of_row _ _ _ _ _ _ (hS.1.heap 1 rfl)]; rfl); go_wp2; exact ⟨rfl, Below.refl _ _⟩
          simp only [act_norm]
          refine wpAnyE_take 16 (v := .pointer (some ⟨w.heap.size, 1, none⟩)) rfl (by kernel_rfl) (by kernel_rfl) (by kernel_rfl) (fun _ _ _ h => h) hst (EffB.run rfl rfl (fun wd hS => ?_)) (.inr (EffB.run rfl rfl (fun wd hS => ?_))) ?_
          · (go_wp2; exact ⟨rfl, Below.refl _ _⟩)
          · (go_wp2; exact ⟨rfl, Below.refl _ _⟩)
          simp only [act_norm]
          refine wpAnyE_take 17 (v := .int .i64 p.mx) rfl (by kernel_rfl) (by kernel_rfl) (by kernel_rfl) (fun _ _ _ h => h) hst (EffB.run rfl rfl (fun wd hS => ?_)) (.inl (by kernel_rfl)) ?_
          · (have c2 : wd.cell? ⟨w.heap.size, 1, none⟩ = some (.int .i64 p.mx) := by rw [cell_of_row _ _ _ _ _ _ (hS.1.heap 0 rfl)]; rfl); go_wp2; exact ⟨rfl, Below.refl _ _⟩
          simp only [act_norm]
          refine wpAnyE_take 18 (v := .bool false) rfl (by kernel_rfl) (by kernel_rfl) (by kernel_rfl) (fun _ _ _ h => h) hst (EffB.run rfl rfl (fun wd hS => ?_)) (.inr (EffB.run rfl rfl (fun wd hS => ?_))) ?_
          · (go_wp2; exact ⟨rfl, Below.refl _ _⟩)
          · (go_wp2; exact ⟨rfl, Below.refl _ _⟩)
          simp only [act_norm]
          refine wpAnyE_take 19 (v := .bool false) rfl (by kernel_rfl) (by kernel_rfl) (by kernel_rfl) (fun _ _ _ h => h) hst (EffB.run rfl rfl (fun wd hS => ?_)) (.inr (EffB.run rfl rfl (fun wd hS => ?_))) ?_
          · (go_wp2; exact ⟨rfl, Below.refl _ _⟩)
          · (go_wp2; exact ⟨rfl, Below.refl _ _⟩)
          simp only [act_norm]
          refine wpAnyE_done (by kernel_rfl) (fun wd hS => ?_) _
          have MF := Lib.hid hS.1
          have AF3 := Lib.hid hS.2.1
          have AF8 := Lib.hid hS.2.2
          clear hS hst
          go_wp2
          exact ⟨⟨j + 1, by omega, by go_num, MF.out.init (cs := [_]), AF3.out, AF8.out⟩, by simp [intOf]; omega⟩
        · obtain rfl : j = k := by omega
          have HB := Lib.hid hM.below
          clear hM hA3 hA8
          go_wp2
          go_ret
          exact ⟨rfl, HB.out⟩

include hp hl hs in
theorem loopRuns_walk (hb : l.length ≤ 9223372036854775807) : Calls Tryz.prog 3 #[.agg #[.int .i64 p.mn, .int .i64 p.mx, .int .i64 p.tg, .int .i64 p.tl, .int .i64 p.wi, .int .i64 p.ho], .int .i64 ticks, .slice q l.length cap] w fun e w' => e = .returned (.bool true) ∧ Below w.heap.size w w' := by
  by_cases h : 6 < l.length ∨ 40 < ticks ∧ ticks ≤ 1024
  · exact loopRuns_out p ticks q cap w l.length hb h
  · by_cases he : Lp.err p ticks l = 0
    · obtain ⟨_, _, h1, h2⟩ := Lp.err_ok he
      obtain ⟨T, rfl⟩ : ∃ T : Nat, ticks = T := ⟨ticks.toNat, by omega⟩
      exact loopRuns_good p hp q cap l hl w hs l.length T rfl (by omega) (by omega) he
    · exact loopRuns_bad p ticks q cap l w hs l.length rfl (by omega) (by omega) he
end
end Go.Proofs.YtldhbgefpfmkmaaGreat
