/- Layer 7: the laws, walked: what a ring keeps. -/
import Derived.Test.YtjbapfdgkaiehaaLaws07
namespace Go.Proofs.Ytjbapfdgkaiehaa
open Go.ChangeShapes Go.WideShapes Go.ChangeAt Go.RowKit

set_option maxHeartbeats 4000000 in
set_option maxRecDepth 100000 in
theorem ringKeeps_walk (room : Int) (p : Option Addr) (cap : Nat) (l : List Int) (hb : l.length ≤ 9223372036854775807) (hc : l.length ≤ cap) (w : World) (hs : Ints .i64 w p l) :
    Calls Try.prog 8 #[.int .i64 room, .slice p l.length cap] w fun e w' => e = .returned (.bool true) ∧ Below w.heap.size w w' := by
  by_cases hrm : room < 1 ∨ 4096 < room
  · have hn := ringI_new_no room hrm
    have HN := Lib.hid hn
    obtain ⟨n, en⟩ : ∃ n, n = l.length := ⟨_, rfl⟩
    rw [← en] at hb hc ⊢
    clear hn hs en
    by_cases h1 : room < 1
    · have d1 : decide (room < 1) = true := decide_eq_true h1
      clear hrm
      go_enter Try.func8, Try.ntmps8
      go_wp2_with fail
      (with_reducible refine (awake07 _).mono ?_)
      rintro e w1 ⟨rfl, hb1⟩
      have B1 := Lib.hid hb1
      clear hb1
      go_wp2_with ((with_reducible refine (HN.out _).mono ?_); rintro e w2 ⟨rfl, rfl⟩)
      go_ret
      exact ⟨rfl, B1.out⟩
    · have h2 : 4096 < room := by omega
      have d1 : decide (room < 1) = false := decide_eq_false h1
      have d2 : decide (4096 < room) = true := decide_eq_true h2
      clear hrm
      go_enter Try.func8, Try.ntmps8
      go_wp2_with fail
      (with_reducible refine (awake07 _).mono ?_)
      rintro e w1 ⟨rfl, hb1⟩
      have B1 := Lib.hid hb1
      clear hb1
      go_wp2_with ((with_reducible refine (HN.out _).mono ?_); rintro e w2 ⟨rfl, rfl⟩)
      go_ret
      exact ⟨rfl, B1.out⟩
  obtain ⟨R, rfl⟩ : ∃ R : Nat, room = R := ⟨room.toNat, by omega⟩
  have hr1 : 1 ≤ R := by omega
  have hr2 : R ≤ 4096 := by omega
  have hn := ringI_made R hr1 hr2
  have HN := Lib.hid hn
  have HS := Lib.hid hs
  have d1 : decide ((R : Int) < 1) = false := decide_eq_false (by omega)
  have d2 : decide ((4096 : Int) < R) = false := decide_eq_false (by omega)
  obtain ⟨n, en⟩ : ∃ n, n = l.length := ⟨_, rfl⟩
  have EN := Lib.hid en
  rw [← en] at hb hc ⊢
  clear hn hs en hrm
  by_cases h60 : 60 < n
  · have d3 : decide ((60 : Int) < n) = true := decide_eq_true (by omega)
    go_enter Try.func8, Try.ntmps8
    go_wp2_with fail
    (with_reducible refine (awake07 _).mono ?_)
    rintro e w1 ⟨rfl, hb1⟩
    have B1 := Lib.hid hb1
    clear hb1
    go_wp2_with fail
    (with_reducible refine (HN.out _).mono ?_)
    rintro e w2 ⟨r, rfl, hr, hb2⟩
    have B2 := Lib.hid (B1.out.trans (hb2.mono B1.out.size))
    clear hb2 hr
    go_wp2
    go_ret
    exact ⟨rfl, B2.out⟩
  have d3 : decide ((60 : Int) < n) = false := decide_eq_false (by omega)
  go_enter Try.func8, Try.ntmps8
  go_wp2_with fail
  (with_reducible refine (awake07 _).mono ?_)
  rintro e w1 ⟨rfl, hb1⟩
  have B1 := Lib.hid hb1
  clear hb1
  go_wp2_with fail
  (with_reducible refine (HN.out _).mono ?_)
  rintro e w2 ⟨r, rfl, hr, hb2⟩
  have B2 := Lib.hid (B1.out.trans (hb2.mono B1.out.size))
  have R2 : Hid (RingI w2 w.heap.size r (.slice none 0 0) R (lastN R (l.take 0))) := by
    obtain ⟨f, ys, g1, g2⟩ := hr
    have e0 : lastN R (l.take 0) = [] := by simp [lastN]
    rw [e0]
    exact ⟨f, ys, ⟨Nat.le_trans B1.out.size g1.low, g1.row, g1.owns.mono B1.out.size, g1.apart, g1.void⟩, g2⟩
  clear hb2 hr
  go_wp2
  go_loopw [36] (fun i wr => ∃ k v, k ≤ n ∧ i = .int .i64 (k : Nat) ∧ RingI wr w.heap.size r v R (lastN R (l.take k)) ∧ Below w.heap.size w wr) (fun i _ => n - (intOf i).toNat)
  case atStart => exact ⟨0, _, by omega, rfl, R2.out, B2.out⟩
  case round =>
    obtain ⟨k, v, hk, rfl, hR, hB⟩ := hrel
    have RR := Lib.hid hR
    have BB := Lib.hid hB
    clear hR hB
    by_cases hlt : k < n
    · have hkl : k < l.length := by have := EN.out; omega
      obtain ⟨b, off, rfl, hbw, hcs⟩ := HS.out.pos (by omega)
      have c1 := hcs k (by omega)
      rw [← BB.out.cell (p := ⟨b, off + k, none⟩) hbw] at c1
      have htk : l.take (k + 1) = l.take k ++ [l[k]?.getD 0] := by
        rw [List.take_add_one, List.getElem?_eq_getElem hkl]; rfl
      have hnext := Ring.next_last R hr1 (l.take k) (l[k]?.getD 0)
      rw [← htk] at hnext
      have hll : (lastN R (l.take k)).length = min R k := by rw [lastN_len, List.length_take]; congr 1; omega
      obtain ⟨x, ex⟩ : ∃ x, x = l[k]?.getD 0 := ⟨_, rfl⟩
      rw [← ex] at c1 hnext
      have hpush := ringI_push RR.out BB.out.size x
      rw [hnext, hll] at hpush
      have HX : Hid (x = l[k]?.getD 0) := ex
      have HC := Lib.hid hcs
      clear hcs htk hnext ex
      have T1 : Ints .i64 w (some ⟨b, off, none⟩) (l.take (k + 1)) := HS.out.take (k + 1)
      have ltk : (l.take (k + 1)).length = k + 1 := by rw [List.length_take]; omega
      have f7 := fun (W : World) (h : Ints .i64 W (some ⟨b, off, none⟩) (l.take (k + 1))) => ref07_last (some ⟨b, off, none⟩) cap (l.take (k + 1)) R (by omega) (by omega) (by omega) hr1 W h
      simp only [ltk] at f7
      obtain ⟨L, eL⟩ : ∃ L, L = lastN R (l.take (k + 1)) := ⟨_, rfl⟩
      simp only [← eL] at f7
      rw [← eL] at hpush
      have lL : L.length ≤ 4096 := by rw [eL, lastN_len]; omega
      have f8 := fun (p4 q5 : Option Addr) (c4 c5 : Nat) (W : World) (h1 : Ints .i64 W p4 L) (h2 : Ints .i64 W q5 L) => ref07_same p4 q5 c4 c5 L L W h1 h2 (by omega) (by omega)
      rw [show decide (L = L) = true from decide_eq_true rfl] at f8
      have F7 := Lib.hid f7
      have F8 := Lib.hid f8
      have TT := Lib.hid T1
      have EL := Lib.hid eL
      obtain ⟨tk, etk⟩ : ∃ t, t = l.take (k + 1) := ⟨_, rfl⟩
      rw [← etk] at TT F7
      clear f7 f8 eL T1 ltk lL etk
      by_cases hfull : R ≤ k
      · rw [if_neg (by omega), decide_eq_true (show R ≤ min R k by omega)] at hpush
        have hL0 : (lastN R (l.take k))[0]?.getD 0 = l[k - R]?.getD 0 := by
          unfold lastN
          rw [List.getElem?_drop, List.length_take, show min k l.length - R + 0 = k - R by omega, List.getElem?_take_of_lt (by omega)]
        rw [hL0] at hpush
        have c2 := HC.out (k - R) (by omega)
        rw [← BB.out.cell (p := ⟨b, off + (k - R), none⟩) hbw] at c2
        obtain ⟨y, ey⟩ : ∃ y, y = l[k - R]?.getD 0 := ⟨_, rfl⟩
        rw [← ey] at hpush c2
        have HP := Lib.hid hpush
        have C2 := Lib.hid c2
        clear hpush c2 hL0 ey HC HX
        go_wp2_with fail
        (with_reducible refine HP.out.mono ?_)
        rintro e w3 ⟨rfl, v3, hr3, ht3, _⟩
        have hb3 := RR.out.pushed BB.out.size ht3
        have R3 := Lib.hid hr3
        have B3 := Lib.hid (BB.out.trans hb3)
        have c2 : w3.cell? ⟨b, off + (k - R), none⟩ = some (.int .i64 y) := (hb3.cell (p := ⟨b, off + (k - R), none⟩) hbw).trans C2.out
        have d4 : decide ((R : Int) ≤ k) = true := decide_eq_true (by omega)
        have T3 : Hid (Ints .i64 w3 (some ⟨b, off, none⟩) tk) := Sl.below TT.out B3.out
        clear hr3 ht3 hb3 HP c1 hll
        have hst := stab_and (stab_and (stab_ringI (B := w.heap.size) (r := r) (v := v3) (room := R) (L := L)) (stab_below (B := w.heap.size) (w0 := w) (Nat.le_refl _))) (stab_ints (p := some ⟨b, off, none⟩) (l := tk))
        go_wp2_with fail
        refine wp_region_E mixed [] hst (by first | exact hst _ _ ⟨⟨R3.out, B3.out⟩, T3.out⟩ (below_drew (Below.refl _ _)) | exact hst _ _ ⟨⟨R3.out, B3.out⟩, T3.out⟩ (below_drewN (Below.refl _ _) 1)) ?_
        refine wpAnyE_take 0 rfl (by kernel_rfl) (by kernel_rfl) (by kernel_rfl) (fun _ _ _ h => h) hst (EffB.pure rfl (fun _ => rfl)) (.inr (EffB.pure rfl (fun _ => rfl))) ?_
        simp only [act_norm]
        refine wpAnyE_take 2 rfl (by kernel_rfl) (by kernel_rfl) (by kernel_rfl) (fun _ _ _ h => h) hst (EffB.pure rfl (fun _ => rfl)) (.inr (EffB.pure rfl (fun _ => rfl))) ?_
        simp only [act_norm]
        refine wpAnyE_take 3 rfl (by kernel_rfl) (by kernel_rfl) (by kernel_rfl) (fun _ _ _ h => h) hst (EffB.pure rfl (fun _ => rfl)) (.inr (EffB.pure rfl (fun _ => rfl))) ?_
        simp only [act_norm]
        refine wpAnyE_take 4 (v := .int .i64 ((k : Int) + 1)) rfl (by kernel_rfl) (by kernel_rfl) (by kernel_rfl) (fun _ _ _ h => h) hst (EffB.run rfl rfl (fun wd hS => ?_)) (.inr (EffB.run rfl rfl (fun wd hS => ?_))) ?_
        · (go_wp2; exact ⟨rfl, Below.refl _ _⟩)
        · (go_wp2; exact ⟨rfl, Below.refl _ _⟩)
        simp only [act_norm]
        refine wpAnyE_take 5 (v := .slice (some ⟨b, off, none⟩) (k + 1) cap) rfl (by kernel_rfl) (by kernel_rfl) (by kernel_rfl) (fun _ _ _ h => h) hst (EffB.run rfl rfl (fun wd hS => ?_)) (.inr (EffB.run rfl rfl (fun wd hS => ?_))) ?_
        · (go_wp2; exact ⟨rfl, Below.refl _ _⟩)
        · (go_wp2; exact ⟨rfl, Below.refl _ _⟩)
        simp only [act_norm]
        refine wpAnyE_take 6 rfl (by kernel_rfl) (by kernel_rfl) (by kernel_rfl) (fun _ _ _ h => h) hst (EffB.pure rfl (fun _ => rfl)) (.inr (EffB.pure rfl (fun _ => rfl))) ?_
        simp only [act_norm]
        refine wpAnyE_one 1 rfl (by kernel_rfl) rfl (fun wd hS => ?_)
        go_wp2_with fail
        (with_reducible refine (ringI_list hS.1.1).mono ?_)
        rintro e w4 ⟨p4, c4, rfl, _, hs4, hb4⟩
        have hst2 := stab_and hst (stab_ints (p := p4) (l := L))
        refine ⟨_, ⟨hst _ _ hS hb4, hs4⟩, hst2, (by first | exact fun _ h => h.1 | exact .inr fun _ h => h.1), ?_⟩
        try simp only [act_norm]
        clear hS hs4 hb4 hst
        refine wpAnyE_one 7 rfl (by kernel_rfl) rfl (fun wd hS => ?_)
        go_wp2_with fail
        (with_reducible refine (F7.out wd hS.1.2).mono ?_)
        rintro e w5 ⟨q5, c5, rfl, hs5, rfl⟩
        have hst := stab_and hst2 (stab_ints (p := q5) (l := L))
        refine ⟨_, ⟨hS, hs5⟩, hst, (by first | exact fun _ h => h.1 | exact .inr fun _ h => h.1), ?_⟩
        try simp only [act_norm]
        clear hS hs5 hst2
        refine wpAnyE_take 8 (v := .bool true) rfl (by kernel_rfl) (by kernel_rfl) (by kernel_rfl) (fun _ _ _ h => h) hst (EffB.run rfl rfl (fun wd hS => ?_)) (.inl (by kernel_rfl)) ?_
        · (go_wp2_with fail; (with_reducible refine (F8.out _ _ _ _ wd hS.1.2 hS.2).mono ?_); rintro e w'' ⟨rfl, hb⟩; exact ⟨rfl, hb⟩)
        simp only [act_norm]
        refine wpAnyE_take 9 (v := .bool false) rfl (by kernel_rfl) (by kernel_rfl) (by kernel_rfl) (fun _ _ _ h => h) hst (EffB.run rfl rfl (fun wd hS => ?_)) (.inr (EffB.run rfl rfl (fun wd hS => ?_))) ?_
        · (go_wp2; exact ⟨rfl, Below.refl _ _⟩)
        · (go_wp2; exact ⟨rfl, Below.refl _ _⟩)
        simp only [act_norm]
        refine wpAnyE_done (by kernel_rfl) (fun wd hS => ?_) _
        have RF := Lib.hid hS.1.1.1.1
        have BF := Lib.hid hS.1.1.1.2
        clear hS hst
        go_wp2
        exact ⟨⟨k + 1, v3, by omega, by go_num, by rw [← EL.out]; exact RF.out, BF.out⟩, by simp [intOf]; omega⟩
      · rw [if_pos (by omega), decide_eq_false (show ¬ R ≤ min R k by omega)] at hpush
        have HP := Lib.hid hpush
        clear hpush HC HX
        go_wp2_with fail
        (with_reducible refine HP.out.mono ?_)
        rintro e w3 ⟨rfl, v3, hr3, ht3, _⟩
        have hb3 := RR.out.pushed BB.out.size ht3
        have R3 := Lib.hid hr3
        have B3 := Lib.hid (BB.out.trans hb3)
        have d4 : decide ((R : Int) ≤ k) = false := decide_eq_false (by omega)
        have T3 : Hid (Ints .i64 w3 (some ⟨b, off, none⟩) tk) := Sl.below TT.out B3.out
        clear hr3 ht3 hb3 HP c1 hll
        have hst := stab_and (stab_and (stab_ringI (B := w.heap.size) (r := r) (v := v3) (room := R) (L := L)) (stab_below (B := w.heap.size) (w0 := w) (Nat.le_refl _))) (stab_ints (p := some ⟨b, off, none⟩) (l := tk))
        go_wp2_with fail
        refine wp_region_E mixed [] hst (by first | exact hst _ _ ⟨⟨R3.out, B3.out⟩, T3.out⟩ (below_drew (Below.refl _ _)) | exact hst _ _ ⟨⟨R3.out, B3.out⟩, T3.out⟩ (below_drewN (Below.refl _ _) 1)) ?_
        refine wpAnyE_take 0 rfl (by kernel_rfl) (by kernel_rfl) (by kernel_rfl) (fun _ _ _ h => h) hst (EffB.pure rfl (fun _ => rfl)) (.inr (EffB.pure rfl (fun _ => rfl))) ?_
        simp only [act_norm]
        refine wpAnyE_take 2 rfl (by kernel_rfl) (by kernel_rfl) (by kernel_rfl) (fun _ _ _ h => h) hst (EffB.pure rfl (fun _ => rfl)) (.inr (EffB.pure rfl (fun _ => rfl))) ?_
        simp only [act_norm]
        refine wpAnyE_take 3 rfl (by kernel_rfl) (by kernel_rfl) (by kernel_rfl) (fun _ _ _ h => h) hst (EffB.pure rfl (fun _ => rfl)) (.inr (EffB.pure rfl (fun _ => rfl))) ?_
        simp only [act_norm]
        refine wpAnyE_take 4 (v := .int .i64 ((k : Int) + 1)) rfl (by kernel_rfl) (by kernel_rfl) (by kernel_rfl) (fun _ _ _ h => h) hst (EffB.run rfl rfl (fun wd hS => ?_)) (.inr (EffB.run rfl rfl (fun wd hS => ?_))) ?_
        · (go_wp2; exact ⟨rfl, Below.refl _ _⟩)
        · (go_wp2; exact ⟨rfl, Below.refl _ _⟩)
        simp only [act_norm]
        refine wpAnyE_take 5 (v := .slice (some ⟨b, off, none⟩) (k + 1) cap) rfl (by kernel_rfl) (by kernel_rfl) (by kernel_rfl) (fun _ _ _ h => h) hst (EffB.run rfl rfl (fun wd hS => ?_)) (.inr (EffB.run rfl rfl (fun wd hS => ?_))) ?_
        · (go_wp2; exact ⟨rfl, Below.refl _ _⟩)
        · (go_wp2; exact ⟨rfl, Below.refl _ _⟩)
        simp only [act_norm]
        refine wpAnyE_take 6 rfl (by kernel_rfl) (by kernel_rfl) (by kernel_rfl) (fun _ _ _ h => h) hst (EffB.pure rfl (fun _ => rfl)) (.inr (EffB.pure rfl (fun _ => rfl))) ?_
        simp only [act_norm]
        refine wpAnyE_one 1 rfl (by kernel_rfl) rfl (fun wd hS => ?_)
        go_wp2_with fail
        (with_reducible refine (ringI_list hS.1.1).mono ?_)
        rintro e w4 ⟨p4, c4, rfl, _, hs4, hb4⟩
        have hst2 := stab_and hst (stab_ints (p := p4) (l := L))
        refine ⟨_, ⟨hst _ _ hS hb4, hs4⟩, hst2, (by first | exact fun _ h => h.1 | exact .inr fun _ h => h.1), ?_⟩
        try simp only [act_norm]
        clear hS hs4 hb4 hst
        refine wpAnyE_one 7 rfl (by kernel_rfl) rfl (fun wd hS => ?_)
        go_wp2_with fail
        (with_reducible refine (F7.out wd hS.1.2).mono ?_)
        rintro e w5 ⟨q5, c5, rfl, hs5, rfl⟩
        have hst := stab_and hst2 (stab_ints (p := q5) (l := L))
        refine ⟨_, ⟨hS, hs5⟩, hst, (by first | exact fun _ h => h.1 | exact .inr fun _ h => h.1), ?_⟩
        try simp only [act_norm]
        clear hS hs5 hst2
        refine wpAnyE_take 8 (v := .bool true) rfl (by kernel_rfl) (by kernel_rfl) (by kernel_rfl) (fun _ _ _ h => h) hst (EffB.run rfl rfl (fun wd hS => ?_)) (.inl (by kernel_rfl)) ?_
        · (go_wp2_with fail; (with_reducible refine (F8.out _ _ _ _ wd hS.1.2 hS.2).mono ?_); rintro e w'' ⟨rfl, hb⟩; exact ⟨rfl, hb⟩)
        simp only [act_norm]
        refine wpAnyE_take 9 (v := .bool false) rfl (by kernel_rfl) (by kernel_rfl) (by kernel_rfl) (fun _ _ _ h => h) hst (EffB.run rfl rfl (fun wd hS => ?_)) (.inr (EffB.run rfl rfl (fun wd hS => ?_))) ?_
        · (go_wp2; exact ⟨rfl, Below.refl _ _⟩)
        · (go_wp2; exact ⟨rfl, Below.refl _ _⟩)
        simp only [act_norm]
        refine wpAnyE_done (by kernel_rfl) (fun wd hS => ?_) _
        have RF := Lib.hid hS.1.1.1.1
        have BF := Lib.hid hS.1.1.1.2
        clear hS hst
        go_wp2
        exact ⟨⟨k + 1, v3, by omega, by go_num, by rw [← EL.out]; exact RF.out, BF.out⟩, by simp [intOf]; omega⟩
    · obtain rfl : k = n := by omega
      have hlen : (lastN R (l.take k)).length = min R k := by rw [lastN_len, List.length_take]; have := EN.out; congr 1; omega
      obtain ⟨L, eL⟩ : ∃ L, L = lastN R (l.take k) := ⟨_, rfl⟩
      rw [← eL] at hlen RR
      have F1 := Lib.hid (ringI_roomOf RR.out)
      have f2 := ringI_lenOf RR.out
      rw [hlen] at f2
      clear eL
      by_cases hkr : R < k
      · rw [show min R k = R by omega] at f2
        have F2 := Lib.hid f2
        clear f2 hlen
        go_wp2_with (first | ((with_reducible refine F1.out.mono ?_); rintro e w3 ⟨rfl, rfl⟩) | ((with_reducible refine F2.out.mono ?_); rintro e w3 ⟨rfl, rfl⟩))
        go_ret
        exact ⟨ret_bool (by simp), BB.out⟩
      · rw [show min R k = k by omega] at f2
        have F2 := Lib.hid f2
        clear f2 hlen
        go_wp2_with (first | ((with_reducible refine F1.out.mono ?_); rintro e w3 ⟨rfl, rfl⟩) | ((with_reducible refine F2.out.mono ?_); rintro e w3 ⟨rfl, rfl⟩))
        go_ret
        exact ⟨ret_bool (by simp), BB.out⟩
end Go.Proofs.Ytjbapfdgkaiehaa
