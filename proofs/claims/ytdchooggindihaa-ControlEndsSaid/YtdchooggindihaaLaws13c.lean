/- Layer 13: the ends of what wants so many; walked. -/
import Derived.Test.YtdchooggindihaaLaws13b
namespace Go.Proofs.Ytdchooggindihaa
open Go.ChangeShapes Go.WideShapes Go.ChangeAt Go.RowKit

theorem ret_two_ib {a a' : Int} {b b' : Bool} {k : IntKind} (h : a = a') (h' : b = b') : Ending.returned (.tuple #[.int k a, .bool b]) = .returned (.tuple #[.int k a', .bool b']) := by rw [h, h']

set_option maxRecDepth 100000 in
theorem control_low_out (p : Pol) (n : Int) (h : p.ok = false ∨ n < 1 ∨ 1073741824 < n) (w : World) :
    Calls Try.prog 42 #[.agg #[.int .i64 p.mn, .int .i64 p.mx, .int .i64 p.tg, .int .i64 p.tl, .int .i64 p.wi, .int .i64 p.ho], .int .i64 n] w fun e w' => e = .returned (.tuple #[.int .i64 0, .bool false]) ∧ Below w.heap.size w w' := by
  have hr := control_right p
  cases hok : p.ok
  · rw [hok] at hr
    have HR := Lib.hid hr
    clear hr h hok
    go_enter Try.func42, Try.ntmps42
    go_wp2_with fail
    (with_reducible refine (HR.out _).mono ?_)
    rintro e w1 ⟨rfl, hb1⟩
    have HB := Lib.hid ((below1 w _).trans (hb1.mono (by simp)))
    clear hb1
    go_wp2
    go_ret2
    exact ⟨rfl, HB.out⟩
  · rw [hok] at hr
    have h' : n < 1 ∨ 1073741824 < n := by rcases h with h | h; (rw [hok] at h; cases h); exact h
    have HR := Lib.hid hr
    clear hr h hok
    go_enter Try.func42, Try.ntmps42
    go_wp2_with fail
    (with_reducible refine (HR.out _).mono ?_)
    rintro e w1 ⟨rfl, hb1⟩
    have HB := Lib.hid ((below1 w _).trans (hb1.mono (by simp)))
    clear hb1
    by_cases h1 : n < 1
    · clear h'
      go_wp2
      go_ret2
      exact ⟨rfl, HB.out⟩
    · have h2 : 1073741824 < n := by omega
      clear h'
      go_wp2
      go_ret2
      exact ⟨rfl, HB.out⟩
set_option maxRecDepth 100000 in
theorem control_low_in (p : Pol) (hp : p.In) (n : Int) (h : p.ok = true) (h1 : 1 ≤ n) (h2 : n ≤ 1073741824) (w : World) :
    Calls Try.prog 42 #[.agg #[.int .i64 p.mn, .int .i64 p.mx, .int .i64 p.tg, .int .i64 p.tl, .int .i64 p.wi, .int .i64 p.ho], .int .i64 n] w fun e w' => e = .returned (.tuple #[.int .i64 (Sat.clamp (Sat.clamp ((n - 1) * p.tg) + 1)), .bool true]) ∧ Below w.heap.size w w' := by
  have hr := control_right p
  rw [h] at hr
  have s1 := sat_mul (n - 1) p.tg (by unfold I64; omega) hp.2.2.1
  have s2 := sat_add (Sat.clamp ((n - 1) * p.tg)) 1 (Sat.clamp_I64 _) (by unfold I64; omega)
  obtain ⟨a, ea⟩ : ∃ a, a = Sat.clamp ((n - 1) * p.tg) := ⟨_, rfl⟩
  rw [← ea] at s1 s2 ⊢
  obtain ⟨b, eb⟩ : ∃ b, b = Sat.clamp (a + 1) := ⟨_, rfl⟩
  rw [← eb] at s2 ⊢
  have HR := Lib.hid hr
  have S1 := Lib.hid s1
  have S2 := Lib.hid s2
  clear hr h hp s1 s2 ea eb
  go_enter Try.func42, Try.ntmps42
  go_wp2_with fail
  (with_reducible refine (HR.out _).mono ?_)
  rintro e w1 ⟨rfl, hb1⟩
  have HB := Lib.hid ((below1 w _).trans (hb1.mono (by simp)))
  have k1 : w1.heap[w.heap.size]? = some (.cells #[.int .i64 p.mn, .int .i64 p.mx, .int .i64 p.tg, .int .i64 p.tl, .int .i64 p.wi, .int .i64 p.ho] 42 (0, 0)) := by rw [hb1.block _ (by simp)]; exact (by simp only [heap_alloc_past, heap_alloc_at, World.size_alloc, Nat.add_assoc, Nat.reduceAdd, Nat.lt_add_right_iff_pos, Nat.add_lt_add_iff_left, Nat.reduceLT, Nat.zero_lt_succ, Nat.lt_add_one])
  have c2 : w1.cell? ⟨w.heap.size, 2, none⟩ = some (.int .i64 p.tg) := by rw [cell_of_row _ _ _ _ _ _ k1]; rfl
  clear hb1 k1
  go_wp2_with fail
  (with_reducible refine (S1.out _).mono ?_)
  rintro e w2 ⟨rfl, rfl⟩
  go_wp2_with fail
  (with_reducible refine (S2.out _).mono ?_)
  rintro e w2 ⟨rfl, rfl⟩
  go_wp2
  go_ret2
  exact ⟨rfl, HB.out⟩

set_option maxRecDepth 100000 in
theorem control_high_out (p : Pol) (n : Int) (h : p.ok = false ∨ n < 0 ∨ 1073741824 < n) (w : World) :
    Calls Try.prog 43 #[.agg #[.int .i64 p.mn, .int .i64 p.mx, .int .i64 p.tg, .int .i64 p.tl, .int .i64 p.wi, .int .i64 p.ho], .int .i64 n] w fun e w' => e = .returned (.tuple #[.int .i64 0, .bool false]) ∧ Below w.heap.size w w' := by
  have hr := control_right p
  cases hok : p.ok
  · rw [hok] at hr
    have HR := Lib.hid hr
    clear hr h hok
    go_enter Try.func43, Try.ntmps43
    go_wp2_with fail
    (with_reducible refine (HR.out _).mono ?_)
    rintro e w1 ⟨rfl, hb1⟩
    have HB := Lib.hid ((below1 w _).trans (hb1.mono (by simp)))
    clear hb1
    go_wp2
    go_ret2
    exact ⟨rfl, HB.out⟩
  · rw [hok] at hr
    have h' : n < 0 ∨ 1073741824 < n := by rcases h with h | h; (rw [hok] at h; cases h); exact h
    have HR := Lib.hid hr
    clear hr h hok
    go_enter Try.func43, Try.ntmps43
    go_wp2_with fail
    (with_reducible refine (HR.out _).mono ?_)
    rintro e w1 ⟨rfl, hb1⟩
    have HB := Lib.hid ((below1 w _).trans (hb1.mono (by simp)))
    clear hb1
    by_cases h1 : n < 0
    · clear h'
      go_wp2
      go_ret2
      exact ⟨rfl, HB.out⟩
    · have h2 : 1073741824 < n := by omega
      clear h'
      go_wp2
      go_ret2
      exact ⟨rfl, HB.out⟩
set_option maxRecDepth 100000 in
theorem control_high_in (p : Pol) (hp : p.In) (n : Int) (h : p.ok = true) (h1 : 0 ≤ n) (h2 : n ≤ 1073741824) (w : World) :
    Calls Try.prog 43 #[.agg #[.int .i64 p.mn, .int .i64 p.mx, .int .i64 p.tg, .int .i64 p.tl, .int .i64 p.wi, .int .i64 p.ho], .int .i64 n] w fun e w' => e = .returned (.tuple #[.int .i64 (Sat.clamp (n * p.tg)), .bool true]) ∧ Below w.heap.size w w' := by
  have hr := control_right p
  rw [h] at hr
  have s1 := sat_mul n p.tg (by unfold I64; omega) hp.2.2.1
  obtain ⟨a, ea⟩ : ∃ a, a = Sat.clamp (n * p.tg) := ⟨_, rfl⟩
  rw [← ea] at s1 ⊢
  have HR := Lib.hid hr
  have S1 := Lib.hid s1
  clear hr h hp s1 ea
  go_enter Try.func43, Try.ntmps43
  go_wp2_with fail
  (with_reducible refine (HR.out _).mono ?_)
  rintro e w1 ⟨rfl, hb1⟩
  have HB := Lib.hid ((below1 w _).trans (hb1.mono (by simp)))
  have k1 : w1.heap[w.heap.size]? = some (.cells #[.int .i64 p.mn, .int .i64 p.mx, .int .i64 p.tg, .int .i64 p.tl, .int .i64 p.wi, .int .i64 p.ho] 42 (0, 0)) := by rw [hb1.block _ (by simp)]; exact (by simp only [heap_alloc_past, heap_alloc_at, World.size_alloc, Nat.add_assoc, Nat.reduceAdd, Nat.lt_add_right_iff_pos, Nat.add_lt_add_iff_left, Nat.reduceLT, Nat.zero_lt_succ, Nat.lt_add_one])
  have c2 : w1.cell? ⟨w.heap.size, 2, none⟩ = some (.int .i64 p.tg) := by rw [cell_of_row _ _ _ _ _ _ k1]; rfl
  clear hb1 k1
  go_wp2_with fail
  (with_reducible refine (S1.out _).mono ?_)
  rintro e w2 ⟨rfl, rfl⟩
  go_wp2
  go_ret2
  exact ⟨rfl, HB.out⟩

theorem Sat.ceil_is (a b q : Int) (hb : 1 ≤ b) (h1 : a ≤ q * b) (h2 : (q - 1) * b < a) : Sat.ceil a b = q := by
  unfold Sat.ceil
  rw [if_neg (by omega)]
  have e1 : q * b = b * q := Int.mul_comm _ _
  have e2 : (q - 1) * b = b * q - b := by rw [Int.sub_mul, Int.mul_comm]; omega
  have e3 : b * -q = -(b * q) := Int.mul_neg _ _
  have := Sat.quo_of (a := -a) (b := b) (q := -q) hb (by omega) (by omega)
  omega
theorem Pol.want_is (p : Pol) (load q : Int) (h : p.ok = true) (h0 : 0 ≤ load) (h1 : load ≤ q * p.tg) (h2 : (q - 1) * p.tg < load) : p.want load = q := by
  have hf := Pol.fine h
  unfold Pol.Fine at hf
  unfold Pol.want
  rw [if_pos h, show max load 0 = load by omega]
  exact Sat.ceil_is _ _ _ (by omega) h1 h2

/-- What the ends are. -/
theorem Pol.ends (p : Pol) (n : Int) (h : p.ok = true) (h1 : 1 ≤ n) (h2 : n ≤ 1073741824) (hh : Sat.clamp (n * p.tg) ≠ 9223372036854775807) :
    ∃ lo hi, Sat.clamp (Sat.clamp ((n - 1) * p.tg) + 1) = lo ∧ Sat.clamp (n * p.tg) = hi ∧ 1 ≤ lo ∧ lo ≤ hi ∧ hi ≤ 9223372036854775806 ∧ p.want lo = n ∧ p.want hi = n ∧ p.want (lo - 1) = n - 1 ∧ p.want (hi + 1) = n + 1 := by
  have hf := Pol.fine h
  unfold Pol.Fine at hf
  have e : (n - 1) * p.tg = n * p.tg - p.tg := by rw [Int.sub_mul, Int.one_mul]
  have e2 : (n - 1 - 1) * p.tg = n * p.tg - p.tg - p.tg := by rw [Int.sub_mul, Int.sub_mul, Int.one_mul]
  have e3 : (n + 1) * p.tg = n * p.tg + p.tg := by rw [Int.add_mul, Int.one_mul]
  have g0 : 0 ≤ (n - 1) * p.tg := Int.mul_nonneg (by omega) (by omega)
  have hlt : n * p.tg ≤ 9223372036854775806 := by
    unfold Sat.clamp at hh
    split at hh
    · omega
    · split at hh <;> omega
  have c1 : Sat.clamp ((n - 1) * p.tg) = n * p.tg - p.tg := by rw [Sat.clamp_of (by unfold I64; omega)]; omega
  have c2 : Sat.clamp (n * p.tg - p.tg + 1) = n * p.tg - p.tg + 1 := Sat.clamp_of (by unfold I64; omega)
  have c3 : Sat.clamp (n * p.tg) = n * p.tg := Sat.clamp_of (by unfold I64; omega)
  refine ⟨n * p.tg - p.tg + 1, n * p.tg, by rw [c1, c2], c3, by omega, by omega, hlt, ?_, ?_, ?_, ?_⟩
  · exact p.want_is _ _ h (by omega) (by omega) (by omega)
  · exact p.want_is _ _ h (by omega) (by omega) (by omega)
  · exact p.want_is _ _ h (by omega) (by omega) (by omega)
  · exact p.want_is _ _ h (by omega) (by omega) (by rw [Int.add_sub_cancel]; omega)

set_option maxHeartbeats 1000000 in
set_option maxRecDepth 100000 in
theorem controlEnds_walk (p : Pol) (hp : p.In) (n : Int) (w : World) :
    Calls Try.prog 9 #[.agg #[.int .i64 p.mn, .int .i64 p.mx, .int .i64 p.tg, .int .i64 p.tl, .int .i64 p.wi, .int .i64 p.ho], .int .i64 n] w fun e w' => e = .returned (.bool true) ∧ Below w.heap.size w w' := by
  have rr := ref_polRight p
  by_cases hout : p.ok = false ∨ n < 0 ∨ 1073741824 < n
  · have r1 := control_low_out p n (by rcases hout with h | h | h; exact .inl h; exact .inr (.inl (by omega)); exact .inr (.inr h))
    have r2 := control_high_out p n hout
    have R1 := Lib.hid r1
    have R2 := Lib.hid r2
    have RR := Lib.hid rr
    have HO := Lib.hid hout
    clear r1 r2 rr hout
    go_enter Try.func9, Try.ntmps9
    go_wp2_with fail
    (with_reducible refine (awake13 _).mono ?_)
    rintro e w1 ⟨rfl, hb1⟩
    have K0 := Lib.hid ((below1 w (.cells #[.int .i64 p.mn, .int .i64 p.mx, .int .i64 p.tg, .int .i64 p.tl, .int .i64 p.wi, .int .i64 p.ho] 42)).trans (hb1.mono (by simp)))
    have K1 : Hid (w1.heap[w.heap.size]? = some (.cells #[.int .i64 p.mn, .int .i64 p.mx, .int .i64 p.tg, .int .i64 p.tl, .int .i64 p.wi, .int .i64 p.ho] 42 (0, 0))) := by show _ = _; rw [hb1.block _ (by simp)]; exact (by simp only [heap_alloc_past, heap_alloc_at, World.size_alloc, Nat.add_assoc, Nat.reduceAdd, Nat.lt_add_right_iff_pos, Nat.add_lt_add_iff_left, Nat.reduceLT, Nat.zero_lt_succ, Nat.lt_add_one])
    clear hb1
    go_wp2_with ((with_reducible refine wpList_load_rowAs rfl 42 _ rfl (w.heap.size) ?_ 42 #[.int .i64 p.mn, .int .i64 p.mx, .int .i64 p.tg, .int .i64 p.tl, .int .i64 p.wi, .int .i64 p.ho] (0, 0) _ 6 ?_ Try.underlying42 rfl (by kernel_rfl) ?_ ?_); exact rfl; exact K1.out; exact rfl)
    (with_reducible refine (R1.out _).mono ?_)
    rintro e w2 ⟨rfl, hb2⟩
    have k0 := (K0.out.trans (hb2.mono K0.out.size))
    have k1 := (hb2.block _ (lt_of_heap K1.out)).trans K1.out
    clear hb2 K0 K1
    have K0 := Lib.hid k0
    have K1 := Lib.hid k1
    clear k0 k1
    go_wp2_with ((with_reducible refine wpList_load_rowAs rfl 42 _ rfl (w.heap.size) ?_ 42 #[.int .i64 p.mn, .int .i64 p.mx, .int .i64 p.tg, .int .i64 p.tl, .int .i64 p.wi, .int .i64 p.ho] (0, 0) _ 6 ?_ Try.underlying42 rfl (by kernel_rfl) ?_ ?_); exact rfl; exact K1.out; exact rfl)
    (with_reducible refine (R2.out _).mono ?_)
    rintro e w3 ⟨rfl, hb3⟩
    have k0 := (K0.out.trans (hb3.mono K0.out.size))
    have k1 := (hb3.block _ (lt_of_heap K1.out)).trans K1.out
    clear hb3 K0 K1
    have K0 := Lib.hid k0
    have K1 := Lib.hid k1
    clear k0 k1
    go_wp2_with ((with_reducible refine wpList_load_rowAs rfl 42 _ rfl (w.heap.size) ?_ 42 #[.int .i64 p.mn, .int .i64 p.mx, .int .i64 p.tg, .int .i64 p.tl, .int .i64 p.wi, .int .i64 p.ho] (0, 0) _ 6 ?_ Try.underlying42 rfl (by kernel_rfl) ?_ ?_); exact rfl; exact K1.out; exact rfl)
    cases hok : p.ok
    · have rr := RR.out
      rw [hok] at rr
      have RR2 := Lib.hid rr
      clear rr hok
      (with_reducible refine (RR2.out _).mono ?_)
      rintro e w4 ⟨rfl, hb4⟩
      have K2 := Lib.hid (K0.out.trans (hb4.mono K0.out.size))
      clear hb4
      go_wp2
      go_ret
      exact ⟨rfl, K2.out⟩
    · have rr := RR.out
      rw [hok] at rr
      have h' : n < 0 ∨ 1073741824 < n := by rcases HO.out with h | h; (rw [hok] at h; cases h); exact h
      have RR2 := Lib.hid rr
      clear rr hok
      (with_reducible refine (RR2.out _).mono ?_)
      rintro e w4 ⟨rfl, hb4⟩
      have K2 := Lib.hid (K0.out.trans (hb4.mono K0.out.size))
      clear hb4
      by_cases h1 : n < 0
      · clear h'
        go_wp2
        go_ret
        exact ⟨rfl, K2.out⟩
      · have h2 : 1073741824 < n := by omega
        clear h'
        go_wp2
        go_ret
        exact ⟨rfl, K2.out⟩
  · have hok : p.ok = true := by simpa using fun e => hout (.inl e)
    have h0 : 0 ≤ n := by omega
    have h2 : n ≤ 1073741824 := by omega
    rw [hok] at rr
    have r2 := control_high_in p hp n hok h0 h2
    have r3 := ref_mul n p.tg (by unfold I64; omega) hp.2.2.1
    clear hout
    by_cases hn0 : n = 0
    · subst hn0
      rw [show Sat.clamp (0 * p.tg) = 0 by rw [Int.zero_mul]; rfl] at r2 r3
      have r1 := control_low_out p 0 (by omega)
      have R1 := Lib.hid r1
      have R2 := Lib.hid r2
      have R3 := Lib.hid r3
      have RR := Lib.hid rr
      clear r1 r2 r3 rr hok hp h0 h2
      go_enter Try.func9, Try.ntmps9
      go_wp2_with fail
      (with_reducible refine (awake13 _).mono ?_)
      rintro e w1 ⟨rfl, hb1⟩
      have K0 := Lib.hid ((below1 w (.cells #[.int .i64 p.mn, .int .i64 p.mx, .int .i64 p.tg, .int .i64 p.tl, .int .i64 p.wi, .int .i64 p.ho] 42)).trans (hb1.mono (by simp)))
      have K1 : Hid (w1.heap[w.heap.size]? = some (.cells #[.int .i64 p.mn, .int .i64 p.mx, .int .i64 p.tg, .int .i64 p.tl, .int .i64 p.wi, .int .i64 p.ho] 42 (0, 0))) := by show _ = _; rw [hb1.block _ (by simp)]; exact (by simp only [heap_alloc_past, heap_alloc_at, World.size_alloc, Nat.add_assoc, Nat.reduceAdd, Nat.lt_add_right_iff_pos, Nat.add_lt_add_iff_left, Nat.reduceLT, Nat.zero_lt_succ, Nat.lt_add_one])
      clear hb1
      go_wp2_with ((with_reducible refine wpList_load_rowAs rfl 42 _ rfl (w.heap.size) ?_ 42 #[.int .i64 p.mn, .int .i64 p.mx, .int .i64 p.tg, .int .i64 p.tl, .int .i64 p.wi, .int .i64 p.ho] (0, 0) _ 6 ?_ Try.underlying42 rfl (by kernel_rfl) ?_ ?_); exact rfl; exact K1.out; exact rfl)
      (with_reducible refine (R1.out _).mono ?_)
      rintro e w2 ⟨rfl, hb2⟩
      have k0 := (K0.out.trans (hb2.mono K0.out.size))
      have k1 := (hb2.block _ (lt_of_heap K1.out)).trans K1.out
      clear hb2 K0 K1
      have K0 := Lib.hid k0
      have K1 := Lib.hid k1
      clear k0 k1
      go_wp2_with ((with_reducible refine wpList_load_rowAs rfl 42 _ rfl (w.heap.size) ?_ 42 #[.int .i64 p.mn, .int .i64 p.mx, .int .i64 p.tg, .int .i64 p.tl, .int .i64 p.wi, .int .i64 p.ho] (0, 0) _ 6 ?_ Try.underlying42 rfl (by kernel_rfl) ?_ ?_); exact rfl; exact K1.out; exact rfl)
      (with_reducible refine (R2.out _).mono ?_)
      rintro e w3 ⟨rfl, hb3⟩
      have k0 := (K0.out.trans (hb3.mono K0.out.size))
      have k1 := (hb3.block _ (lt_of_heap K1.out)).trans K1.out
      clear hb3 K0 K1
      have K0 := Lib.hid k0
      have K1 := Lib.hid k1
      clear k0 k1
      go_wp2_with ((with_reducible refine wpList_load_rowAs rfl 42 _ rfl (w.heap.size) ?_ 42 #[.int .i64 p.mn, .int .i64 p.mx, .int .i64 p.tg, .int .i64 p.tl, .int .i64 p.wi, .int .i64 p.ho] (0, 0) _ 6 ?_ Try.underlying42 rfl (by kernel_rfl) ?_ ?_); exact rfl; exact K1.out; exact rfl)
      (with_reducible refine (RR.out _).mono ?_)
      rintro e w4 ⟨rfl, hb4⟩
      have k0 := (K0.out.trans (hb4.mono K0.out.size))
      have k1 := (hb4.block _ (lt_of_heap K1.out)).trans K1.out
      have c2 : w4.cell? ⟨w.heap.size, 2, none⟩ = some (.int .i64 p.tg) := by rw [cell_of_row _ _ _ _ _ _ k1]; rfl
      clear hb4 K0 K1 k1
      have K0 := Lib.hid k0
      clear k0
      go_wp2_with ((with_reducible refine (R3.out _).mono ?_); rintro e w5 ⟨rfl, rfl⟩)
      go_ret
      exact ⟨rfl, K0.out⟩
    · have h1 : 1 ≤ n := by omega
      have r1 := control_low_in p hp n hok h1 h2
      have r4 := ref_mul (n - 1) p.tg (by unfold I64; omega) hp.2.2.1
      have r5 := ref_add (Sat.clamp ((n - 1) * p.tg)) 1 (Sat.clamp_I64 _) (by unfold I64; omega)
      have hends := Pol.ends p n hok h1 h2
      have hlo : I64 (Sat.clamp (Sat.clamp ((n - 1) * p.tg) + 1)) := Sat.clamp_I64 _
      have hhi : I64 (Sat.clamp (n * p.tg)) := Sat.clamp_I64 _
      obtain ⟨v, ev⟩ : ∃ v, v = Sat.clamp ((n - 1) * p.tg) := ⟨_, rfl⟩
      rw [← ev] at r1 r4 r5 hends hlo
      obtain ⟨lo, elo⟩ : ∃ lo, lo = Sat.clamp (v + 1) := ⟨_, rfl⟩
      obtain ⟨hi, ehi⟩ : ∃ hi, hi = Sat.clamp (n * p.tg) := ⟨_, rfl⟩
      rw [← elo] at r1 r5 hends hlo
      rw [← ehi] at r2 r3 hends hhi
      have d0 : decide (n < 0) = false := decide_eq_false (by omega)
      have d1 : decide (1073741824 < n) = false := decide_eq_false (by omega)
      have d2 : decide (0 < n) = true := decide_eq_true (by omega)
      have d3 : (n == 0) = false := beq_eq_false_iff_ne.2 hn0
      clear ev elo ehi hn0
      have R1 := Lib.hid r1
      have R2 := Lib.hid r2
      have R3 := Lib.hid r3
      have R4 := Lib.hid r4
      have R5 := Lib.hid r5
      have RR := Lib.hid rr
      have HE := Lib.hid hends
      have HLO := Lib.hid hlo
      have HHI := Lib.hid hhi
      clear r1 r2 r3 r4 r5 rr hends hok hp hlo hhi
      go_enter Try.func9, Try.ntmps9
      go_wp2_with fail
      (with_reducible refine (awake13 _).mono ?_)
      rintro e w1 ⟨rfl, hb1⟩
      have K0 := Lib.hid ((below1 w (.cells #[.int .i64 p.mn, .int .i64 p.mx, .int .i64 p.tg, .int .i64 p.tl, .int .i64 p.wi, .int .i64 p.ho] 42)).trans (hb1.mono (by simp)))
      have K1 : Hid (w1.heap[w.heap.size]? = some (.cells #[.int .i64 p.mn, .int .i64 p.mx, .int .i64 p.tg, .int .i64 p.tl, .int .i64 p.wi, .int .i64 p.ho] 42 (0, 0))) := by show _ = _; rw [hb1.block _ (by simp)]; exact (by simp only [heap_alloc_past, heap_alloc_at, World.size_alloc, Nat.add_assoc, Nat.reduceAdd, Nat.lt_add_right_iff_pos, Nat.add_lt_add_iff_left, Nat.reduceLT, Nat.zero_lt_succ, Nat.lt_add_one])
      clear hb1
      go_wp2_with ((with_reducible refine wpList_load_rowAs rfl 42 _ rfl (w.heap.size) ?_ 42 #[.int .i64 p.mn, .int .i64 p.mx, .int .i64 p.tg, .int .i64 p.tl, .int .i64 p.wi, .int .i64 p.ho] (0, 0) _ 6 ?_ Try.underlying42 rfl (by kernel_rfl) ?_ ?_); exact rfl; exact K1.out; exact rfl)
      (with_reducible refine (R1.out _).mono ?_)
      rintro e w2 ⟨rfl, hb2⟩
      have k0 := (K0.out.trans (hb2.mono K0.out.size))
      have k1 := (hb2.block _ (lt_of_heap K1.out)).trans K1.out
      clear hb2 K0 K1
      have K0 := Lib.hid k0
      have K1 := Lib.hid k1
      clear k0 k1
      go_wp2_with ((with_reducible refine wpList_load_rowAs rfl 42 _ rfl (w.heap.size) ?_ 42 #[.int .i64 p.mn, .int .i64 p.mx, .int .i64 p.tg, .int .i64 p.tl, .int .i64 p.wi, .int .i64 p.ho] (0, 0) _ 6 ?_ Try.underlying42 rfl (by kernel_rfl) ?_ ?_); exact rfl; exact K1.out; exact rfl)
      (with_reducible refine (R2.out _).mono ?_)
      rintro e w3 ⟨rfl, hb3⟩
      have k0 := (K0.out.trans (hb3.mono K0.out.size))
      have k1 := (hb3.block _ (lt_of_heap K1.out)).trans K1.out
      clear hb3 K0 K1
      have K0 := Lib.hid k0
      have K1 := Lib.hid k1
      clear k0 k1
      go_wp2_with ((with_reducible refine wpList_load_rowAs rfl 42 _ rfl (w.heap.size) ?_ 42 #[.int .i64 p.mn, .int .i64 p.mx, .int .i64 p.tg, .int .i64 p.tl, .int .i64 p.wi, .int .i64 p.ho] (0, 0) _ 6 ?_ Try.underlying42 rfl (by kernel_rfl) ?_ ?_); exact rfl; exact K1.out; exact rfl)
      (with_reducible refine (RR.out _).mono ?_)
      rintro e w4 ⟨rfl, hb4⟩
      have k0 := (K0.out.trans (hb4.mono K0.out.size))
      have k1 := (hb4.block _ (lt_of_heap K1.out)).trans K1.out
      clear hb4 K0 K1
      have K0 := Lib.hid k0
      have K1 := Lib.hid k1
      clear k0 k1
      have c2 : w4.cell? ⟨w.heap.size, 2, none⟩ = some (.int .i64 p.tg) := by rw [cell_of_row _ _ _ _ _ _ K1.out]; rfl
      go_wp2_with ((with_reducible refine (R3.out _).mono ?_); rintro e w5 ⟨rfl, rfl⟩)
      (with_reducible refine (R4.out _).mono ?_)
      rintro e w5 ⟨rfl, rfl⟩
      by_cases hM : hi = 9223372036854775807
      · have hMb : (hi == 9223372036854775807) = true := beq_iff_eq.2 hM
        go_wp2_with ((with_reducible refine (R5.out _).mono ?_); rintro e w5 ⟨rfl, rfl⟩)
        go_ret
        exact ⟨rfl, K0.out⟩
      · obtain ⟨lo', hi', e1, e2, b1, b2, b3, q1, q2, q3, q4⟩ := HE.out hM
        subst e1 e2
        have hMb : (hi == 9223372036854775807) = false := beq_eq_false_iff_ne.2 hM
        have t1 := control_want p lo HLO.out
        have t2 := control_want p hi HHI.out
        have t3 := control_want p (lo - 1) (by have := HLO.out; unfold I64 at *; omega)
        have t4 := control_want p (hi + 1) (by have := HHI.out; unfold I64 at *; omega)
        rw [q1] at t1
        rw [q2] at t2
        rw [q3] at t3
        rw [q4] at t4
        have T1 := Lib.hid t1
        have T2 := Lib.hid t2
        have T3 := Lib.hid t3
        have T4 := Lib.hid t4
        clear t1 t2 t3 t4 q1 q2 q3 q4 hM HE HLO HHI
        go_wp2_with (first | ((with_reducible refine (R5.out _).mono ?_); rintro e w5 ⟨rfl, rfl⟩) | ((with_reducible refine wpList_load_rowAs rfl 42 _ rfl (w.heap.size) ?_ 42 #[.int .i64 p.mn, .int .i64 p.mx, .int .i64 p.tg, .int .i64 p.tl, .int .i64 p.wi, .int .i64 p.ho] (0, 0) _ 6 ?_ Try.underlying42 rfl (by kernel_rfl) ?_ ?_); exact rfl; exact K1.out; exact rfl))
        (with_reducible refine (T1.out _).mono ?_)
        rintro e w6 ⟨rfl, hb6⟩
        have k0 := (K0.out.trans (hb6.mono K0.out.size))
        have k1 := (hb6.block _ (lt_of_heap K1.out)).trans K1.out
        clear hb6 K0 K1
        have K0 := Lib.hid k0
        have K1 := Lib.hid k1
        clear k0 k1
        go_wp2_with ((with_reducible refine wpList_load_rowG ?_ 42 _ rfl (w.heap.size) ?_ 42 #[.int .i64 p.mn, .int .i64 p.mx, .int .i64 p.tg, .int .i64 p.tl, .int .i64 p.wi, .int .i64 p.ho] (0, 0) _ 6 ?_ Try.underlying42 rfl (by kernel_rfl) ?_ ?_); kernel_rfl; exact rfl; exact K1.out; exact rfl)
        (with_reducible refine (T2.out _).mono ?_)
        rintro e w7 ⟨rfl, hb7⟩
        have k0 := (K0.out.trans (hb7.mono K0.out.size))
        have k1 := (hb7.block _ (lt_of_heap K1.out)).trans K1.out
        clear hb7 K0 K1
        have K0 := Lib.hid k0
        have K1 := Lib.hid k1
        clear k0 k1
        go_wp2_with ((with_reducible refine wpList_load_rowG ?_ 42 _ rfl (w.heap.size) ?_ 42 #[.int .i64 p.mn, .int .i64 p.mx, .int .i64 p.tg, .int .i64 p.tl, .int .i64 p.wi, .int .i64 p.ho] (0, 0) _ 6 ?_ Try.underlying42 rfl (by kernel_rfl) ?_ ?_); kernel_rfl; exact rfl; exact K1.out; exact rfl)
        (with_reducible refine (T3.out _).mono ?_)
        rintro e w8 ⟨rfl, hb8⟩
        have k0 := (K0.out.trans (hb8.mono K0.out.size))
        have k1 := (hb8.block _ (lt_of_heap K1.out)).trans K1.out
        clear hb8 K0 K1
        have K0 := Lib.hid k0
        have K1 := Lib.hid k1
        clear k0 k1
        go_wp2_with ((with_reducible refine wpList_load_rowG ?_ 42 _ rfl (w.heap.size) ?_ 42 #[.int .i64 p.mn, .int .i64 p.mx, .int .i64 p.tg, .int .i64 p.tl, .int .i64 p.wi, .int .i64 p.ho] (0, 0) _ 6 ?_ Try.underlying42 rfl (by kernel_rfl) ?_ ?_); kernel_rfl; exact rfl; exact K1.out; exact rfl)
        (with_reducible refine (T4.out _).mono ?_)
        rintro e w9 ⟨rfl, hb9⟩
        have k0 := (K0.out.trans (hb9.mono K0.out.size))
        have k1 := (hb9.block _ (lt_of_heap K1.out)).trans K1.out
        clear hb9 K0 K1
        have K0 := Lib.hid k0
        have K1 := Lib.hid k1
        clear k0 k1
        go_wp2
        go_ret
        exact ⟨rfl, K0.out⟩
end Go.Proofs.Ytdchooggindihaa
