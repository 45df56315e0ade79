/- Turns and streaks, walked (layer 15); what is told of lists of decisions. -/
import Derived.Test.YtildjnibdappnaaGreatJAdv2
import Derived.WalkMore
import Derived.Deep.LoopGhost
import Derived.Outline
namespace Go.Proofs.YtildjnibdappnaaGreat
open Go.ChangeShapes Go.WideShapes Go.ChangeAt Go.RowKit

theorem cmp_isNaN (x : Int) (w : World) : Calls Tryz.prog 63 #[.int .i64 x] w fun e w' => e = .returned (.bool false) ∧ w' = w := by
  go_enter Tryz.func63, Tryz.ntmps63
  go_wp2
  go_ret
  exact ⟨ret_bool (by simp), rfl⟩
theorem cmp_compare (x y : Int) (w : World) : Calls Tryz.prog 37 #[.int .i64 x, .int .i64 y] w fun e w' => e = .returned (.int .i64 (Adv.sgn x y)) ∧ w' = w := by
  by_cases h1 : x < y
  · have HE : Hid (Adv.sgn x y = -1) := by show _ = _; unfold Adv.sgn; rw [if_pos h1]
    go_enter Tryz.func37, Tryz.ntmps37
    go_wp2_with ((with_reducible refine (cmp_isNaN _ _).mono ?_); rintro e w1 ⟨rfl, rfl⟩)
    go_ret
    exact ⟨ret_int HE.out.symm, rfl⟩
  · by_cases h2 : y < x
    · have HE : Hid (Adv.sgn x y = 1) := by show _ = _; unfold Adv.sgn; rw [if_neg h1, if_pos h2]
      go_enter Tryz.func37, Tryz.ntmps37
      go_wp2_with ((with_reducible refine (cmp_isNaN _ _).mono ?_); rintro e w1 ⟨rfl, rfl⟩)
      go_ret
      exact ⟨ret_int HE.out.symm, rfl⟩
    · have HE : Hid (Adv.sgn x y = 0) := by show _ = _; unfold Adv.sgn; rw [if_neg h1, if_neg h2]
      go_enter Tryz.func37, Tryz.ntmps37
      go_wp2_with ((with_reducible refine (cmp_isNaN _ _).mono ?_); rintro e w1 ⟨rfl, rfl⟩)
      go_ret
      exact ⟨ret_int HE.out.symm, rfl⟩

theorem Adv.sgn_zero (x : Int) : Adv.sgn x x = 0 := by unfold Adv.sgn; rw [if_neg (by omega), if_neg (by omega)]
theorem Adv.turns_way (g : Nat → Int) (k : Nat) : (Adv.turns g k).2 = 0 ∨ (Adv.turns g k).2 = 1 ∨ (Adv.turns g k).2 = -1 := by
  have := Adv.turns_changes g k
  rcases this with h | h
  · exact .inl h.1
  · exact .inr h.1
theorem Adv.turns_few (g : Nat → Int) {n : Nat} (h : n ≤ 1) : Adv.turns g n = (0, 0) := by
  rcases Nat.le_one_iff_eq_zero_or_eq_one.1 h with h | h <;> (rw [h]; rfl)

set_option maxHeartbeats 2000000 in
set_option maxRecDepth 100000 in
theorem steady_turns (p : Option Addr) (cap : Nat) (l : List Adv) (hb : l.length ≤ 9223372036854775806) (w : World) (hs : Advs w p l) :
    Calls Tryz.prog 40 #[.slice p l.length cap] w fun e w' => e = .returned (.int .i64 ((Adv.turns (Adv.rep l) l.length).1 : Nat)) ∧ Below w.heap.size w w' := by
  have HS := Lib.hid hs
  obtain ⟨n, hn⟩ : ∃ n, n = l.length := ⟨_, rfl⟩
  rw [← hn] at hb ⊢
  have HN := Lib.hid hn
  have HR := Lib.hid (fun k (hk : k < l.length) => hs.rep k hk)
  obtain ⟨g, hg⟩ : ∃ g, g = Adv.rep l := ⟨_, rfl⟩
  rw [← hg] at HR ⊢
  clear hs hn hg
  by_cases hn1 : n ≤ 1
  · have HE := Lib.hid (Adv.turns_few g hn1)
    go_enter Tryz.func40, Tryz.ntmps40
    go_wp2
    go_step3
    go_wp2
    go_step3
    go_wp2
    go_loopw [3, 4, 5] (fun v u i wr => v = .int .i64 0 ∧ u = .int .i64 0 ∧ i = .int .i64 1 ∧ wr = w) (fun _ _ _ _ => 0)
    case atStart => exact ⟨rfl, rfl, rfl, rfl⟩
    case round =>
      obtain ⟨rfl, rfl, rfl, rfl⟩ := hrel
      go_wp2
      try rw [Exit.noGoto_ret]
      go_ret
      exact ⟨ret_int (by rw [HE.out]; rfl), Below.refl _ _⟩
  · obtain ⟨b, off, rfl, hbw, hc⟩ := HR.out 0 (by have := HN.out; omega)
    have HC := Lib.hid hc
    clear hc HR HS
    go_enter Tryz.func40, Tryz.ntmps40
    go_wp2
    go_step3
    go_wp2
    go_step3
    go_wp2
    go_loopw [3, 4, 5] (fun v u i wr => ∃ k : Nat, 1 ≤ k ∧ k ≤ n ∧ i = .int .i64 k ∧ v = .int .i64 ((Adv.turns g k).1 : Nat) ∧ u = .int .i64 (Adv.turns g k).2 ∧ Below w.heap.size w wr) (fun _ _ i _ => n - (intOf i).toNat)
    case atStart => exact ⟨1, by omega, by omega, rfl, rfl, rfl, Below.refl _ _⟩
    case round =>
      obtain ⟨k, hk1, hk, rfl, rfl, rfl, hB⟩ := hrel
      have HB := Lib.hid hB
      clear hB
      by_cases hlt : k < n
      · have c1 := HC.out k (by have := HN.out; omega)
        have c2 := HC.out (k - 1) (by have := HN.out; omega)
        rw [← HB.out.cell (p := ⟨b, _, none⟩) hbw] at c1 c2
        have hle := Adv.turns_le g k
        have hwy := Adv.turns_way g k
        have hs1 := Adv.turns_same (g := g) (k := k) hk1
        have hs2 := Adv.turns_more (g := g) (k := k) hk1
        obtain ⟨j, rfl⟩ : ∃ j, k = j + 1 := ⟨k - 1, by omega⟩
        rw [Nat.add_sub_cancel] at c2 hs1 hs2
        obtain ⟨x, ex⟩ : ∃ x, x = g (j + 1) := ⟨_, rfl⟩
        obtain ⟨y, ey⟩ : ∃ x, x = g j := ⟨_, rfl⟩
        rw [← ex] at c1 hs1 hs2
        rw [← ey] at c2 hs1 hs2
        obtain ⟨m, em⟩ : ∃ m, m = Adv.turns g (j + 1) := ⟨_, rfl⟩
        rw [← em] at hle hwy hs1 hs2 ⊢
        obtain ⟨m, u⟩ := m
        simp only at hle hwy hs1 hs2
        have hcmp := cmp_compare x y
        have hsz := Adv.sgn_cases (a := x) (b := y)
        have hsz0 := Adv.sgn_zero x
        obtain ⟨s, es⟩ : ∃ s, s = Adv.sgn x y := ⟨_, rfl⟩
        rw [← es] at hcmp hs2 hsz
        have i1 : (0 : Int) ≤ j := by omega
        have i2 : (j : Int) + 1 < n := by omega
        have S1 := Lib.hid hs1
        have S2 := Lib.hid hs2
        have HCM := Lib.hid hcmp
        have HSZ := Lib.hid hsz
        have HES := Lib.hid es
        clear ex ey em hs1 hs2 hcmp hsz es
        by_cases hxy : x = y
        · subst hxy
          have HE := Lib.hid (S1.out rfl)
          have hs0 := HES.out
          rw [hsz0] at hs0
          subst hs0
          clear S1 S2 HSZ HES hsz0
          go_wp2
          go_quiet ((go_at_call 37; exact Calls.quiet_of_same (HCM.out _)))
          go_wp2
          exact ⟨⟨j + 1 + 1, by omega, by omega, by go_num, by rw [HE.out], by rw [HE.out], below_drewN HB.out _⟩, by simp [intOf]; omega⟩
        · have hS2 := S2.out hxy
          have hs01 : s = -1 ∨ s = 1 := by rcases HSZ.out hxy with h | h; exact .inl h.2; exact .inr h.2
          have hsn : (s == 0) = false := by rcases hs01 with h | h <;> (rw [h]; rfl)
          clear S1 S2 HSZ HES hsz0
          by_cases ht : s = -u
          · rw [if_pos ht] at hS2
            have HE := Lib.hid hS2
            have htb : (s == -u) = true := beq_iff_eq.2 ht
            have HT := Lib.hid ht
            clear hS2 ht
            go_wp2
            go_quiet ((go_at_call 37; exact Calls.quiet_of_same (HCM.out _)))
            go_wp2
            exact ⟨⟨j + 1 + 1, by omega, by omega, by go_num, int_eq (by rw [HE.out]; omega), by rw [HE.out], below_drewN HB.out _⟩, by simp [intOf]; omega⟩
          · rw [if_neg ht] at hS2
            have HE := Lib.hid hS2
            have htb : (s == -u) = false := beq_eq_false_iff_ne.2 ht
            clear hS2
            go_wp2
            go_quiet ((go_at_call 37; exact Calls.quiet_of_same (HCM.out _)))
            go_wp2
            exact ⟨⟨j + 1 + 1, by omega, by omega, by go_num, by rw [HE.out], by rw [HE.out], below_drewN HB.out _⟩, by simp [intOf]; omega⟩
      · obtain rfl : k = n := by omega
        go_wp2
        try rw [Exit.noGoto_ret]
        go_ret
        exact ⟨rfl, HB.out⟩

set_option maxHeartbeats 2000000 in
set_option maxRecDepth 100000 in
theorem ref15_turns (p : Option Addr) (cap : Nat) (l : List Adv) (hb : l.length ≤ 9223372036854775806) (w : World) (hs : Advs w p l) :
    Calls Tryz.prog 24 #[.slice p l.length cap] w fun e w' => e = .returned (.int .i64 ((Adv.turns (Adv.rep l) l.length).1 : Nat)) ∧ Below w.heap.size w w' := by
  have HS := Lib.hid hs
  obtain ⟨n, hn⟩ : ∃ n, n = l.length := ⟨_, rfl⟩
  rw [← hn] at hb ⊢
  have HN := Lib.hid hn
  have HR := Lib.hid (fun k (hk : k < l.length) => hs.rep k hk)
  obtain ⟨g, hg⟩ : ∃ g, g = Adv.rep l := ⟨_, rfl⟩
  rw [← hg] at HR ⊢
  clear hs hn hg
  by_cases hn1 : n ≤ 1
  · have HE := Lib.hid (Adv.turns_few g hn1)
    go_enter Tryz.func24, Tryz.ntmps24
    go_wp2
    go_loopw [3, 4, 5, 6] (fun v u d i wr => v = .int .i64 0 ∧ u = .bool false ∧ d = .bool false ∧ i = .int .i64 1 ∧ wr = w) (fun _ _ _ _ _ => 0)
    case atStart => exact ⟨rfl, rfl, rfl, rfl, rfl⟩
    case round =>
      obtain ⟨rfl, rfl, rfl, rfl, rfl⟩ := hrel
      go_wp2
      go_ret
      exact ⟨ret_int (by rw [HE.out]; rfl), Below.refl _ _⟩
  · obtain ⟨b, off, rfl, hbw, hc⟩ := HR.out 0 (by have := HN.out; omega)
    have HC := Lib.hid hc
    clear hc HR HS
    go_enter Tryz.func24, Tryz.ntmps24
    go_wp2
    go_loopw [3, 4, 5, 6] (fun v u d i wr => ∃ (k : Nat) (up dn : Bool), 1 ≤ k ∧ k ≤ n ∧ i = .int .i64 k ∧ v = .int .i64 ((Adv.turns g k).1 : Nat) ∧ u = .bool up ∧ d = .bool dn ∧ up = decide ((Adv.turns g k).2 = 1) ∧ dn = decide ((Adv.turns g k).2 = -1) ∧ Below w.heap.size w wr) (fun _ _ _ i _ => n - (intOf i).toNat)
    case atStart => exact ⟨1, false, false, by omega, by omega, rfl, rfl, rfl, rfl, rfl, rfl, Below.refl _ _⟩
    case round =>
      obtain ⟨k, up, dn, hk1, hk, rfl, rfl, rfl, rfl, hup, hdn, hB⟩ := hrel
      have HB := Lib.hid hB
      clear hB
      by_cases hlt : k < n
      · have c1 := HC.out k (by have := HN.out; omega)
        have c2 := HC.out (k - 1) (by have := HN.out; omega)
        rw [← HB.out.cell (p := ⟨b, _, none⟩) hbw] at c1 c2
        have hle := Adv.turns_le g k
        have hwy := Adv.turns_way g k
        have hs1 := Adv.turns_same (g := g) (k := k) hk1
        have hs2 := Adv.turns_more (g := g) (k := k) hk1
        obtain ⟨j, rfl⟩ : ∃ j, k = j + 1 := ⟨k - 1, by omega⟩
        rw [Nat.add_sub_cancel] at c2 hs1 hs2
        obtain ⟨x, ex⟩ : ∃ x, x = g (j + 1) := ⟨_, rfl⟩
        obtain ⟨y, ey⟩ : ∃ x, x = g j := ⟨_, rfl⟩
        rw [← ex] at c1 hs1 hs2
        rw [← ey] at c2 hs1 hs2
        obtain ⟨m, em⟩ : ∃ m, m = Adv.turns g (j + 1) := ⟨_, rfl⟩
        rw [← em] at hle hwy hs1 hs2 hup hdn ⊢
        obtain ⟨m, u⟩ := m
        simp only at hle hwy hs1 hs2 hup hdn
        have i1 : (0 : Int) ≤ j := by omega
        have i2 : (j : Int) + 1 < n := by omega
        have S1 := Lib.hid hs1
        have S2 := Lib.hid hs2
        clear ex ey em hs1 hs2
        by_cases hxy : x = y
        · subst hxy
          have HE := Lib.hid (S1.out rfl)
          have HUP := Lib.hid hup
          have HDN := Lib.hid hdn
          clear S1 S2 hup hdn
          go_wp2
          exact ⟨⟨j + 1 + 1, up, dn, by omega, by omega, by go_num, by rw [HE.out], rfl, rfl, by rw [HE.out]; exact HUP.out, by rw [HE.out]; exact HDN.out, HB.out⟩, by simp [intOf]; omega⟩
        · by_cases hgt : y < x
          · have hsg : Adv.sgn x y = 1 := by unfold Adv.sgn; rw [if_neg (by omega), if_pos hgt]
            have hS2 := S2.out hxy
            rw [hsg] at hS2
            have HE := Lib.hid hS2
            clear S1 S2 hS2 hsg
            cases dn with
            | true =>
              have hu : u = -1 := of_decide_eq_true hdn.symm
              have HE2 : Hid (Adv.turns g (j + 1 + 1) = (m + 1, 1)) := by show _ = _; rw [HE.out, if_pos (by omega)]
              clear HE hup hdn hu
              go_wp2
              exact ⟨⟨j + 1 + 1, true, false, by omega, by omega, by go_num, int_eq (by rw [HE2.out]; omega), rfl, rfl, by rw [HE2.out]; rfl, by rw [HE2.out]; rfl, HB.out⟩, by simp [intOf]; omega⟩
            | false =>
              have hu : ¬ u = -1 := of_decide_eq_false hdn.symm
              have HE2 : Hid (Adv.turns g (j + 1 + 1) = (m, 1)) := by show _ = _; rw [HE.out, if_neg (by omega)]
              clear HE hup hdn hu
              go_wp2
              exact ⟨⟨j + 1 + 1, true, false, by omega, by omega, by go_num, by rw [HE2.out], rfl, rfl, by rw [HE2.out]; rfl, by rw [HE2.out]; rfl, HB.out⟩, by simp [intOf]; omega⟩
          · have hlt2 : x < y := by omega
            have hsg : Adv.sgn x y = -1 := by unfold Adv.sgn; rw [if_pos hlt2]
            have hS2 := S2.out hxy
            rw [hsg] at hS2
            have HE := Lib.hid hS2
            clear S1 S2 hS2 hsg
            cases up with
            | true =>
              have hu : u = 1 := of_decide_eq_true hup.symm
              have HE2 : Hid (Adv.turns g (j + 1 + 1) = (m + 1, -1)) := by show _ = _; rw [HE.out, if_pos (by omega)]
              clear HE hup hdn hu
              go_wp2
              exact ⟨⟨j + 1 + 1, false, true, by omega, by omega, by go_num, int_eq (by rw [HE2.out]; omega), rfl, rfl, by rw [HE2.out]; rfl, by rw [HE2.out]; rfl, HB.out⟩, by simp [intOf]; omega⟩
            | false =>
              have hu : ¬ u = 1 := of_decide_eq_false hup.symm
              have HE2 : Hid (Adv.turns g (j + 1 + 1) = (m, -1)) := by show _ = _; rw [HE.out, if_neg (by omega)]
              clear HE hup hdn hu
              go_wp2
              exact ⟨⟨j + 1 + 1, false, true, by omega, by omega, by go_num, by rw [HE2.out], rfl, rfl, by rw [HE2.out]; rfl, by rw [HE2.out]; rfl, HB.out⟩, by simp [intOf]; omega⟩
      · obtain rfl : k = n := by omega
        clear hup hdn
        go_wp2
        go_ret
        exact ⟨rfl, HB.out⟩

end Go.Proofs.YtildjnibdappnaaGreat
