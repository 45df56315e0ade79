/- Layer 5: RouteSplits, walked. -/
import Derived.Test.YtapgcbjlgekpeaaJHeavy5
namespace Go.Proofs.Ytapgcbjlgekpeaa
open Go.ChangeShapes Go.WideShapes Go.ChangeAt Go.RowKit

theorem hv_max (f : Nat → Nat) (k : Nat) : hv f (max (k + 1) 1) = if (hv f (max k 1)).2 < f k then (k, f k) else hv f (max k 1) := by
  rcases Nat.eq_zero_or_pos k with h | h
  · subst h
    show hv f 1 = if (hv f 1).2 < f 0 then (0, f 0) else hv f 1
    rw [hv_one, if_neg (Nat.lt_irrefl _)]
  · rw [show max (k + 1) 1 = k + 1 by omega, show max k 1 = k by omega]
    rfl

set_option maxHeartbeats 2000000 in
set_option maxRecDepth 100000 in
theorem routeSplits_no (p : Option Addr) (N c : Nat) (n : Int) (hn : I64 n) (hb : ¬ 0 ≤ Route.bits n) (w : World) : Calls Try.prog 6 #[.slice p N c, .int .i64 n] w fun e w' => e = .returned (.bool true) ∧ Below w.heap.size w w' := by
  have A := Lib.hid awake05
  have S1 := Lib.hid (fun W => route_split_no p N c n hn hb W)
  have S2 := Lib.hid (fun W => route_heavy_no p N c n hn hb W)
  have S3 := Lib.hid (fun W => ref_bits n hn W)
  obtain ⟨b, eb⟩ : ∃ b, b = Route.bits n := ⟨_, rfl⟩
  rw [← eb] at hb
  simp only [← eb] at S3
  clear eb hn
  have hb2 : decide (b < 0) = true := decide_eq_true (by omega)
  go_enter Try.func6, Try.ntmps6
  go_wp2_with fail
  (with_reducible refine (A.out _).mono ?_)
  rintro e w1 ⟨rfl, hB⟩
  have B1 := Lib.hid hB
  clear hB A
  by_cases h60 : 60 < N
  · have d60 : decide ((60 : Int) < (N : Int)) = true := decide_eq_true (by omega)
    go_wp2
    go_ret
    exact ⟨rfl, B1.out⟩
  have d60 : decide ((60 : Int) < (N : Int)) = false := decide_eq_false (by omega)
  go_wp2_with (first | ((with_reducible refine (S1.out _).mono ?_); rintro e w2 ⟨rfl, rfl⟩) | ((with_reducible refine (S2.out _).mono ?_); rintro e w2 ⟨rfl, rfl⟩) | ((with_reducible refine (S3.out _).mono ?_); rintro e w2 ⟨rfl, rfl⟩))
  go_ret
  exact ⟨rfl, B1.out⟩

set_option maxHeartbeats 2000000 in
set_option maxRecDepth 100000 in
theorem routeSplits_yes (p : Option Addr) (N c : Nat) (L : List Ky) (hl : L.length = N) (hIn : ∀ a ∈ L, a.In) (m : Nat) (hb : 0 ≤ Route.bits m) (hm : m ≤ 64) (hm1 : 1 ≤ m) (hN : N ≤ 9223372036854775807) (w : World) (hs : Kys w p L) : Calls Try.prog 6 #[.slice p N c, .int .i64 m] w fun e w' => e = .returned (.bool true) ∧ Below w.heap.size w w' := by
  have hI : I64 (m : Int) := by unfold I64; omega
  have A := Lib.hid awake05
  have SP := Lib.hid (fun (hN : N ≤ 60) (W : World) (hW : Kys W p L) => route_split p N c L hl hIn m hb hm (by omega) W hW)
  have SH := Lib.hid (fun (hN : N ≤ 60) (W : World) (hW : Kys W p L) => route_heavy p N c L hl hIn m hb hm (by omega) W hW)
  have S3 := Lib.hid (fun W => ref_bits m hI W)
  have PT := Lib.hid (fun (hN : N ≤ 60) (j : Nat) (W : World) (hW : Kys W p L) => ref05_part p N c L hl hIn m hI j (by omega) W hW)
  have hfl : N ≤ 60 → ∀ j : Nat, (Ky.part m j L).length ≤ 60 := fun h j => Nat.le_trans (List.length_filter_le _ _) (by omega)
  obtain ⟨f, hf⟩ : ∃ f : Nat → Nat, f = fun j : Nat => (Ky.part m j L).length := ⟨_, rfl⟩
  have HF : Hid (∀ j : Nat, (Ky.part m j L).length = f j) := fun j => by rw [hf]
  have HFL : Hid (N ≤ 60 → ∀ j, f j ≤ 60) := fun h j => by rw [hf]; exact hfl h j
  simp only [← hf] at SH
  have HS := Lib.hid hs
  obtain ⟨b, eb⟩ : ∃ b, b = Route.bits (m : Int) := ⟨_, rfl⟩
  rw [← eb] at hb
  simp only [← eb] at S3
  have hb2 : decide (b < 0) = false := decide_eq_false (by omega)
  clear hs hl hIn eb hfl hf hI hb
  go_enter Try.func6, Try.ntmps6
  go_wp2_with fail
  (with_reducible refine (A.out _).mono ?_)
  rintro e w1 ⟨rfl, hB⟩
  have B1 := Lib.hid hB
  clear hB A
  by_cases h60 : 60 < N
  · have d60 : decide ((60 : Int) < (N : Int)) = true := decide_eq_true (by omega)
    go_wp2
    go_ret
    exact ⟨rfl, B1.out⟩
  have d60 : decide ((60 : Int) < (N : Int)) = false := decide_eq_false (by omega)
  have h60b : N ≤ 60 := by omega
  have SP1 := Lib.hid (SP.out h60b w1 (HS.out.below B1.out))
  have HFL2 := Lib.hid (HFL.out h60b)
  go_wp2_with fail
  (with_reducible refine SP1.out.mono ?_)
  rintro e w2 ⟨P, v, rfl, hQ, hb⟩
  have Q2 := Lib.hid hQ
  have B2 := Lib.hid (B1.out.trans (hb.mono B1.out.size))
  obtain ⟨B, hBB⟩ : ∃ B, B = w1.heap.size := ⟨_, rfl⟩
  rw [← hBB] at Q2
  have SH1 := Lib.hid (SH.out h60b w2 (HS.out.below B2.out))
  clear hb hQ hBB SP SP1 B1 SH HFL
  go_wp2_with fail
  (with_reducible refine SH1.out.mono ?_)
  rintro e w3 ⟨rfl, hb⟩
  have Q3 := Lib.hid (Q2.out.below hb)
  have B3 := Lib.hid (B2.out.trans (hb.mono B2.out.size))
  clear hb Q2 B2 SH1
  go_upto_region 11 with ((with_reducible refine (S3.out _).mono ?_); rintro e w4 ⟨rfl, rfl⟩)
  have cv0 : ∃ p0 c0, w3.cell? ⟨P, 0, none⟩ = some (.slice p0 (f 0) c0) := by
    obtain ⟨pk, ck, ev, _⟩ := (Q3.out.own 0 (by omega)).sl
    rw [HF.out 0] at ev
    exact ⟨pk, ck, by rw [Q3.out.cell 0 (by omega), ev]⟩
  obtain ⟨p0, c0, cv⟩ := cv0
  have hf0 := HFL2.out 0
  have h1 := hv_one f
  have H1 : Hid ((hv f (max 0 1)).1 = 0 ∧ (hv f (max 0 1)).2 = f 0) := by show _ ∧ _; rw [show max 0 1 = 1 from rfl, h1]; exact ⟨rfl, rfl⟩
  clear h1
  go_wp2
  go_quiet (fail)
  clear cv
  have B4 := Lib.hid (below_drewN B3.out nq)
  have Q4 : Hid (Parts (w3.drewN nq) B P m v (fun j => Ky.part m j L)) := Q3.out.below (below_drewN (Below.refl _ _) nq)
  clear B3 Q3
  generalize w3.drewN nq = W4 at *
  go_wp2
  go_loopw [8, 9, 50] (fun x y i wr => ∃ k : Nat, k ≤ m ∧ i = .int .i64 k ∧ x = .int .i64 ((hv f (max k 1)).1 : Nat) ∧ y = .int .i64 ((hv f (max k 1)).2 : Nat) ∧ Parts wr B P m v (fun j => Ky.part m j L) ∧ Below w.heap.size w wr) (fun _ _ i _ => m - (intOf i).toNat)
  case atStart => exact ⟨0, by omega, rfl, by rw [H1.out.1]; rfl, by rw [H1.out.2], Q4.out, B4.out⟩
  case round =>
    clear Q4 B4 H1 hf0
    obtain ⟨k, hk, rfl, rfl, rfl, hQ, hB⟩ := hrel
    by_cases hlt : k < m
    · obtain ⟨pk, ck, ev, _, hpk⟩ := kys_of_owns (hQ.own k hlt)
      have cv := hQ.cell k hlt
      rw [ev, HF.out k] at cv
      have PK := Lib.hid hpk
      have HQ := Lib.hid hQ
      have HB := Lib.hid hB
      have PT1 := Lib.hid (PT.out h60b k wr (HS.out.below hB))
      have hfk := HFL2.out k
      have HNX := Lib.hid (hv_max f k)
      obtain ⟨x, ex⟩ : ∃ x, x = (hv f (max k 1)).1 := ⟨_, rfl⟩
      obtain ⟨y, ey⟩ : ∃ y, y = (hv f (max k 1)).2 := ⟨_, rfl⟩
      have HX := Lib.hid (And.intro ex ey)
      rw [← ex, ← ey]
      have i1 : (0 : Int) ≤ k := by omega
      have i2 : (k : Int) < m := by omega
      clear hQ hB ev hpk ex ey
      go_wp2_with fail
      (with_reducible refine PT1.out.mono ?_)
      rintro e w5 ⟨v5, rfl, hO, hb⟩
      obtain ⟨q5, c5, rfl, _, hq5⟩ := kys_of_owns hO
      have Q5 := Lib.hid (HQ.out.below hb)
      have B5 := Lib.hid (HB.out.trans (hb.mono HB.out.size))
      have SM := Lib.hid (ref03_alike pk q5 (f k) ck c5 (Ky.part m k L) (HF.out k) (by omega) w5 (PK.out.below hb) hq5)
      rw [HF.out k]
      clear hb hO hq5 PT1 HQ HB PK cv
      go_wp2_with fail
      (with_reducible refine SM.out.mono ?_)
      rintro e w6 ⟨rfl, hb⟩
      have Q6 := Lib.hid (Q5.out.below hb)
      have B6 := Lib.hid (B5.out.trans (hb.mono B5.out.size))
      clear hb SM Q5 B5
      by_cases hw : y < f k
      · have hnx : hv f (max (k + 1) 1) = (k, f k) := by rw [HNX.out, if_pos (by rw [← HX.out.2]; exact hw)]
        have HN2 := Lib.hid hnx
        clear hnx HNX HX
        go_wp2
        go_roundw
        case rel => exact ⟨k + 1, by omega, by go_num, by rw [HN2.out], by rw [HN2.out], Q6.out, B6.out⟩
        case measure => simp [intOf]; omega
      · have hnx : hv f (max (k + 1) 1) = (x, y) := by rw [HNX.out, if_neg (by rw [← HX.out.2]; exact hw), HX.out.1, HX.out.2]
        have HN2 := Lib.hid hnx
        clear hnx HNX HX
        go_wp2
        go_roundw
        case rel => exact ⟨k + 1, by omega, by go_num, by rw [HN2.out], by rw [HN2.out], Q6.out, B6.out⟩
        case measure => simp [intOf]; omega
    · obtain rfl : k = m := by omega
      have HB := Lib.hid hB
      rw [show max k 1 = k by omega]
      clear hQ hB
      go_wp2
      go_ret
      exact ⟨rfl, HB.out⟩
theorem routeSplits_walk (p : Option Addr) (c : Nat) (L : List Ky) (hIn : ∀ a ∈ L, a.In) (n : Int) (hn : I64 n) (hN : L.length ≤ 9223372036854775807) (w : World) (hs : Kys w p L) : Calls Try.prog 6 #[.slice p L.length c, .int .i64 n] w fun e w' => e = .returned (.bool true) ∧ Below w.heap.size w w' := by
  by_cases hb : 0 ≤ Route.bits n
  · have h1 : ¬ (n < 1 ∨ 64 < n) := fun h2 => by have := Route.bits_out n h2; omega
    obtain ⟨m, rfl⟩ : ∃ m : Nat, n = m := ⟨n.toNat, by omega⟩
    exact routeSplits_yes p L.length c L rfl hIn m hb (by omega) (by omega) hN w hs
  · exact routeSplits_no p L.length c n hn hb w
end Go.Proofs.Ytapgcbjlgekpeaa
