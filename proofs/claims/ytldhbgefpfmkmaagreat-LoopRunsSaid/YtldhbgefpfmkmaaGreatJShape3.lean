/- Layers 54, 55: the loads of shapes together; whether there may be such a loop: the program's. -/
import Derived.Test.YtldhbgefpfmkmaaGreatJShape2
import Derived.Test.YtldhbgefpfmkmaaGreatJLoopD
namespace Go.Proofs.YtldhbgefpfmkmaaGreat
open Go.ChangeShapes Go.WideShapes Go.ChangeAt Go.RowKit

theorem Shp.sum_step (l : List Adv) (t : Int) (k : Nat) (h : k < l.length) : Sat.sum ((l.map fun s => Shp.at s t).take (k + 1)) = Sat.clamp (Sat.sum ((l.map fun s => Shp.at s t).take k) + Shp.at (l[k]?.getD default) t) := by
  rw [Sat.sum_step _ k (by rw [List.length_map]; exact h), List.getElem?_map, List.getElem?_eq_getElem h]
  rfl

set_option maxHeartbeats 1000000 in
set_option maxRecDepth 100000 in
theorem shp_sum (q : Option Addr) (c n : Nat) (l : List Adv) (en : l.length = n) (hl : ∀ a ∈ l, a.In) (hb : n ≤ 9223372036854775807) (t : Int) (ht : I64 t) (w : World) (hs : Advs w q l) :
    Calls Tryz.prog 9 #[.int .i64 t, .slice q n c] w fun e w' => e = .returned (.int .i64 (Shp.sum l t)) ∧ Below w.heap.size w w' := by
  have HS := Lib.hid hs
  have HIN := Lib.hid hl
  have HT := Lib.hid ht
  have EN := Lib.hid en
  obtain ⟨sm, esm⟩ : ∃ f : Nat → Int, f = fun k => Sat.sum ((l.map fun s => Shp.at s t).take k) := ⟨_, rfl⟩
  have HN : Hid (∀ k, k < l.length → sm (k + 1) = Sat.clamp (sm k + Shp.at (l[k]?.getD default) t)) := by rw [esm]; exact fun k hk => Shp.sum_step l t k hk
  have H64 : Hid (∀ k, I64 (sm k)) := by rw [esm]; exact fun k => Sat.sum_I64 _
  have HE : Hid (sm n = Shp.sum l t) := by rw [esm]; show Sat.sum _ = Sat.sum _; rw [List.take_of_length_le (by rw [List.length_map]; omega)]
  have H0 : Hid (sm 0 = 0) := by rw [esm]; rfl
  obtain ⟨r, er⟩ : ∃ r, r = Shp.sum l t := ⟨_, rfl⟩
  rw [← er] at HE ⊢
  clear hs hl en esm er ht
  go_enter Tryz.func9, Tryz.ntmps9
  go_wp2
  go_loopw [5, 10] (fun s i wr => ∃ k : Nat, k ≤ n ∧ i = .int .i64 (k : Nat) ∧ s = .int .i64 (sm k) ∧ Below w.heap.size w wr) (fun _ i _ => n - (intOf i).toNat)
  case atStart => exact ⟨0, by omega, rfl, by rw [H0.out], Below.refl _ _⟩
  case round =>
    obtain ⟨k, hk, rfl, rfl, hB⟩ := hrel
    by_cases hlt : k < n
    · have hkl : k < l.length := by have := EN.out; omega
      obtain ⟨bq, off, rfl, hbw, c0, c1, c2, c3, c4⟩ := (HS.out.below hB).cells k hkl
      have hin : (l[k]?.getD default).In := by rw [List.getElem?_eq_getElem hkl]; exact HIN.out _ (List.getElem_mem _)
      have hn := HN.out k hkl
      have h64 := H64.out k
      have A := shp_at (l[k]?.getD default) hin t HT.out
      obtain ⟨v, ev⟩ : ∃ v, v = Shp.at (l[k]?.getD default) t := ⟨_, rfl⟩
      have hv64 : I64 v := ev ▸ Shp.at_I64 hin t
      rw [← ev] at A hn
      obtain ⟨⟨x0, x1, x2, x3, x4⟩, ex⟩ : ∃ x, x = l[k]?.getD default := ⟨_, rfl⟩
      rw [← ex] at c0 c1 c2 c3 c4 A
      simp only at c0 c1 c2 c3 c4 A
      obtain ⟨s, es⟩ : ∃ s, s = sm k := ⟨_, rfl⟩
      rw [← es] at hn h64 ⊢
      have HA := Lib.hid A
      have HF := Lib.hid (sat_add s v h64 hv64)
      have HN2 := Lib.hid hn
      have HB := Lib.hid (hB.alloc hB.size (.cells #[.int .i64 x0, .int .i64 x1, .int .i64 x2, .int .i64 x3, .int .i64 x4] 44))
      have HK := Lib.hid (heap_alloc_at wr (.cells #[.int .i64 x0, .int .i64 x1, .int .i64 x2, .int .i64 x3, .int .i64 x4] 44) _ rfl)
      have hkn : (k : Int) < n := by omega
      clear A ev ex es hin hn h64 hv64 hB
      go_wp2_with ((with_reducible refine wpList_load_rowAs rfl 44 _ rfl (wr.heap.size) ?_ 44 #[.int .i64 x0, .int .i64 x1, .int .i64 x2, .int .i64 x3, .int .i64 x4] (0, 0) _ 5 ?_ Tryz.underlying44 rfl (by kernel_rfl) ?_ ?_); exact rfl; exact HK.out; exact rfl)
      (with_reducible refine (HA.out _).mono ?_)
      rintro e w2 ⟨rfl, hb2⟩
      have HB2 := Lib.hid (HB.out.trans (hb2.mono HB.out.size))
      clear hb2
      go_wp2_with ((with_reducible refine (HF.out _).mono ?_); rintro e w3 ⟨rfl, rfl⟩)
      exact ⟨⟨k + 1, by omega, by go_num, by rw [HN2.out], HB2.out⟩, by simp [intOf]; omega⟩
    · obtain rfl : k = n := by omega
      have HB := Lib.hid hB
      go_wp2
      go_ret
      exact ⟨ret_int HE.out, HB.out⟩

set_option maxHeartbeats 1000000 in
set_option maxRecDepth 100000 in
theorem loop_check (p : Pol) (ticks : Int) (q : Option Addr) (c n : Nat) (l : List Adv) (en : l.length = n) (hb : n ≤ 9223372036854775807) (w : World) (hs : Advs w q l) :
    Calls Tryz.prog 8 #[.agg #[.int .i64 p.mn, .int .i64 p.mx, .int .i64 p.tg, .int .i64 p.tl, .int .i64 p.wi, .int .i64 p.ho], .int .i64 ticks, .slice q n c] w fun e w' => e = .returned (.int .i64 (Lp.err p ticks l)) ∧ Below w.heap.size w w' := by
  have HP := policy_check p
  have hd : Lp.err p ticks l = if p.ok = true then (if Lp.bad l l.length ≠ 0 then Lp.bad l l.length else if ticks < 0 ∨ 1024 < ticks then 12 else 0) else 7 := rfl
  obtain ⟨r, er⟩ : ∃ r, r = Lp.err p ticks l := ⟨_, rfl⟩
  rw [← er] at hd ⊢
  have hpe : p.err = if p.ok = true then 0 else 7 := rfl
  have HS := Lib.hid hs
  have EN := Lib.hid en
  have HUP := Lib.hid (fun k => Lp.bad_up l (k := k))
  have HN := Lib.hid (fun k => show Lp.bad l (k + 1) = if Lp.bad l k ≠ 0 then Lp.bad l k else Shp.code (l[k]?.getD default) from rfl)
  have H0 : Hid (Lp.bad l 0 = 0) := rfl
  rw [en] at hd
  obtain ⟨bd, ebd⟩ : ∃ f, f = Lp.bad l := ⟨_, rfl⟩
  rw [← ebd] at hd HN H0
  simp only [← ebd] at HUP
  clear er hs en ebd
  have M0 := Lib.hid ((Mem.start w).alloc (.cells #[.int .i64 p.mn, .int .i64 p.mx, .int .i64 p.tg, .int .i64 p.tl, .int .i64 p.wi, .int .i64 p.ho] 23))
  have K0 := Lib.hid (M0.out.heap 0 rfl)
  cases hok : p.ok with
  | false =>
    rw [hok] at hpe hd
    rw [if_neg (by simp)] at hpe hd
    rw [hpe] at HP
    have HP := Lib.hid HP
    have HD := Lib.hid hd
    clear hpe hd hok
    go_enter Tryz.func8, Tryz.ntmps8
    go_wp2_with ((with_reducible refine wpList_load_rowAs rfl 23 _ rfl (w.heap.size) ?_ 23 #[.int .i64 p.mn, .int .i64 p.mx, .int .i64 p.tg, .int .i64 p.tl, .int .i64 p.wi, .int .i64 p.ho] (0, 0) _ 6 ?_ Tryz.underlying23 rfl (by kernel_rfl) ?_ ?_); exact rfl; exact K0.out; exact rfl)
    (with_reducible refine (HP.out _).mono ?_)
    rintro e w1 ⟨rfl, hb1⟩
    have HB := Lib.hid (M0.out.call hb1).below
    clear hb1
    go_wp2
    go_ret
    exact ⟨ret_int HD.out.symm, HB.out⟩
  | true =>
    rw [hok] at hpe hd
    rw [if_pos rfl] at hpe hd
    rw [hpe] at HP
    have HP := Lib.hid HP
    have HD := Lib.hid hd
    clear hpe hd hok
    go_enter Tryz.func8, Tryz.ntmps8
    go_wp2_with ((with_reducible refine wpList_load_rowAs rfl 23 _ rfl (w.heap.size) ?_ 23 #[.int .i64 p.mn, .int .i64 p.mx, .int .i64 p.tg, .int .i64 p.tl, .int .i64 p.wi, .int .i64 p.ho] (0, 0) _ 6 ?_ Tryz.underlying23 rfl (by kernel_rfl) ?_ ?_); exact rfl; exact K0.out; exact rfl)
    (with_reducible refine (HP.out _).mono ?_)
    rintro e w1 ⟨rfl, hb1⟩
    have HB := Lib.hid (M0.out.call hb1).below
    clear hb1 M0 K0 HP
    go_wp2
    go_loopw [18] (fun i wr => ∃ k : Nat, k ≤ n ∧ i = .int .i64 (k : Nat) ∧ bd k = 0 ∧ Below w.heap.size w wr) (fun i _ => n - (intOf i).toNat)
    case atStart => exact ⟨0, by omega, rfl, H0.out, HB.out⟩
    case round =>
      obtain ⟨k, hk, rfl, hz, hB⟩ := hrel
      by_cases hlt : k < n
      · have hkl : k < l.length := by have := EN.out; omega
        obtain ⟨bq, off, rfl, hbw, c0, c1, c2, c3, c4⟩ := (HS.out.below hB).cells k hkl
        have hn := HN.out k
        rw [hz, if_neg (by simp)] at hn
        have A := shp_check (l[k]?.getD default)
        obtain ⟨v, ev⟩ : ∃ v, v = Shp.code (l[k]?.getD default) := ⟨_, rfl⟩
        rw [← ev] at A hn
        obtain ⟨⟨x0, x1, x2, x3, x4⟩, ex⟩ : ∃ x, x = l[k]?.getD default := ⟨_, rfl⟩
        rw [← ex] at c0 c1 c2 c3 c4 A
        simp only at c0 c1 c2 c3 c4 A
        have HA := Lib.hid A
        have HB2 := Lib.hid (hB.alloc hB.size (.cells #[.int .i64 x0, .int .i64 x1, .int .i64 x2, .int .i64 x3, .int .i64 x4] 44))
        have HK := Lib.hid (heap_alloc_at wr (.cells #[.int .i64 x0, .int .i64 x1, .int .i64 x2, .int .i64 x3, .int .i64 x4] 44) _ rfl)
        have hkn : (k : Int) < n := by omega
        have HN2 := Lib.hid hn
        have hup := HUP.out (k + 1)
        have HUP2 := Lib.hid hup
        clear A ev ex hB hn hup hz
        go_wp2_with ((with_reducible refine wpList_load_rowAs rfl 44 _ rfl (wr.heap.size) ?_ 44 #[.int .i64 x0, .int .i64 x1, .int .i64 x2, .int .i64 x3, .int .i64 x4] (0, 0) _ 5 ?_ Tryz.underlying44 rfl (by kernel_rfl) ?_ ?_); exact rfl; exact HK.out; exact rfl)
        (with_reducible refine (HA.out _).mono ?_)
        rintro e w2 ⟨rfl, hb2⟩
        have HB3 := Lib.hid (HB2.out.trans (hb2.mono HB2.out.size))
        clear hb2
        by_cases hv : v = 0
        · subst hv
          go_wp2
          exact ⟨⟨k + 1, by omega, by go_num, HN2.out, HB3.out⟩, by simp [intOf]; omega⟩
        · have hvb : (v == 0) = false := beq_eq_false_iff_ne.2 hv
          have HR : Hid (v = r) := by
            show v = r
            have h1 : bd (k + 1) ≠ 0 := by rw [HN2.out]; exact hv
            have h2 := HUP2.out h1 (n - (k + 1))
            rw [show k + 1 + (n - (k + 1)) = n by omega, HN2.out] at h2
            rw [HD.out, if_pos (by rw [h2]; exact hv), h2]
          clear hv
          go_wp2
          go_ret
          exact ⟨ret_int HR.out, HB3.out⟩
      · obtain rfl : k = n := by omega
        have HB2 := Lib.hid hB
        have hD := HD.out
        rw [if_neg (by simpa using hz)] at hD
        have HD2 := Lib.hid hD
        clear hD hB HB
        go_wp2
        all_goals go_ret
        all_goals exact ⟨ret_int (by have h := HD2.out; split at h <;> omega), HB2.out⟩
end Go.Proofs.YtldhbgefpfmkmaaGreat
