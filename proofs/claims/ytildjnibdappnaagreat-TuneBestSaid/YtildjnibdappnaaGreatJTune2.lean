/- Layer 45: numbers that rise. -/
import Derived.Test.YtildjnibdappnaaGreatJTune
import Derived.Test.YtildjnibdappnaaGreatJBase
import Derived.Test.YtildjnibdappnaaGreatJStat
import Derived.Deep.CutRange
namespace Go.Proofs.YtildjnibdappnaaGreat
open Go.ChangeShapes Go.WideShapes Go.ChangeAt Go.RowKit

/-- The ladder: what rises is kept. -/
def Lad.next (L : List Int) (x : Int) : List Int := if L.length = 0 ∨ L[L.length - 1]?.getD 0 < x then L ++ [x] else L
def Lad.upto (X : Nat → Int) : Nat → List Int
  | 0 => []
  | k + 1 => Lad.next (Lad.upto X k) (X k)
theorem Lad.len (X : Nat → Int) : ∀ k, (Lad.upto X k).length ≤ k
  | 0 => Nat.le_refl _
  | k + 1 => by
    have := Lad.len X k
    unfold Lad.upto Lad.next
    split
    · simp; omega
    · omega
theorem Lad.rises (X : Nat → Int) : ∀ k i j, i < j → j < (Lad.upto X k).length → (Lad.upto X k)[i]?.getD 0 < (Lad.upto X k)[j]?.getD 0
  | 0, i, j, _, hj => by simp [Lad.upto] at hj
  | k + 1, i, j, hij, hj => by
    have ih := Lad.rises X k
    unfold Lad.upto Lad.next at hj ⊢
    split at hj
    · rename_i h
      rw [if_pos h]
      rw [List.length_append, List.length_singleton] at hj
      by_cases h2 : j < (Lad.upto X k).length
      · rw [List.getElem?_append_left (by omega), List.getElem?_append_left (by omega)]
        exact ih i j hij h2
      · obtain rfl : j = (Lad.upto X k).length := by omega
        rw [List.getElem?_append_left (by omega), List.getElem?_append_right (by omega), Nat.sub_self]
        show _ < X k
        rcases h with h | h
        · omega
        · by_cases h3 : i = (Lad.upto X k).length - 1
          · subst h3; exact h
          · exact Int.lt_trans (ih i ((Lad.upto X k).length - 1) (by omega) (by omega)) h
    · rename_i h
      rw [if_neg h]
      exact ih i j hij hj
/-- All of the first j are less. -/
def Lad.above (L : List Int) (x : Int) (j : Nat) : Bool := (L.take j).all (fun y => decide (y < x))
theorem Lad.above_next (L : List Int) (x : Int) (j : Nat) (h : j < L.length) : Lad.above L x (j + 1) = (Lad.above L x j && decide (L[j]?.getD 0 < x)) := by
  unfold Lad.above
  rw [List.take_succ_eq_append_getElem h, List.all_append, List.getElem?_eq_getElem h]
  simp
theorem Lad.above_spec (X : Nat → Int) (k : Nat) (x : Int) : Lad.above (Lad.upto X k) x (Lad.upto X k).length = decide ((Lad.upto X k).length = 0 ∨ (Lad.upto X k)[(Lad.upto X k).length - 1]?.getD 0 < x) := by
  have hr := Lad.rises X k
  generalize Lad.upto X k = L at hr ⊢
  unfold Lad.above
  rw [List.take_length, Bool.eq_iff_iff, List.all_eq_true, decide_eq_true_iff]
  constructor
  · intro h
    by_cases h0 : L.length = 0
    · exact .inl h0
    · right
      rw [List.getElem?_eq_getElem (show L.length - 1 < L.length by omega)]
      exact of_decide_eq_true (h _ (List.getElem_mem _))
  · rintro (h | h) y hy
    · rw [List.length_eq_zero_iff.1 h] at hy; cases hy
    · obtain ⟨i, hi, rfl⟩ := List.mem_iff_getElem.1 hy
      apply decide_eq_true
      by_cases h2 : i = L.length - 1
      · subst h2; rwa [List.getElem?_eq_getElem hi] at h
      · have := hr i (L.length - 1) (by omega) (by omega)
        rw [List.getElem?_eq_getElem hi] at this
        exact Int.lt_trans this h

/-- The number at place i. -/
def Lad.at (a b st : Int) (n : Nat) (i : Nat) : Int := if i + 1 = n ∧ 1 < n then b else Sat.clamp (a + Sat.clamp (st * i))
theorem Lad.at_last {a b st : Int} {n i : Nat} (h : i + 1 = n) (h2 : 1 < n) : Lad.at a b st n i = b := if_pos ⟨h, h2⟩
theorem Lad.at_mid {a b st : Int} {n i : Nat} (h : ¬ (i + 1 = n ∧ 1 < n)) : Lad.at a b st n i = Sat.clamp (a + Sat.clamp (st * i)) := if_neg h
theorem Sat.floor_I64 (a b : Int) (ha : I64 a) : I64 (Sat.floor a b) := by
  unfold Sat.floor
  split
  · unfold I64; omega
  · rename_i h
    have := Sat.div_bd a b ha (by omega)
    exact ⟨this.1, this.2.1⟩
def Lad.step (a b : Int) (n : Nat) : Int := Sat.floor (Sat.clamp (b - a)) ((n : Int) - 1)
/-- What the ladder is. -/
def Lad.of (a b : Int) (n : Int) : List Int := if n < 1 ∨ 256 < n ∨ b < a then [] else Lad.upto (Lad.at a b (Lad.step a b n.toNat) n.toNat) n.toNat
theorem Lad.next_yes {L : List Int} {x : Int} (h : L.length = 0 ∨ L[L.length - 1]?.getD 0 < x) : Lad.next L x = L ++ [x] := if_pos h
theorem Lad.next_no {L : List Int} {x : Int} (h : ¬ (L.length = 0 ∨ L[L.length - 1]?.getD 0 < x)) : Lad.next L x = L := if_neg h

set_option maxRecDepth 100000 in
theorem tune_ladder_no (a b : Int) (n : Int) (h : n < 1 ∨ 256 < n ∨ b < a) (w : World) :
    Calls Tryz.prog 33 #[.int .i64 a, .int .i64 b, .int .i64 n] w fun e w' => e = .returned (.slice none 0 0) ∧ w = w' := by
  by_cases h1 : n < 1
  · have d1 : decide (n < 1) = true := decide_eq_true h1
    clear h
    go_enter Tryz.func33, Tryz.ntmps33
    go_wp2
    go_ret
    exact ⟨rfl, rfl⟩
  have d1 : decide (n < 1) = false := decide_eq_false h1
  by_cases h2 : 256 < n
  · have d2 : decide (256 < n) = true := decide_eq_true h2
    clear h
    go_enter Tryz.func33, Tryz.ntmps33
    go_wp2
    go_ret
    exact ⟨rfl, rfl⟩
  have d2 : decide (256 < n) = false := decide_eq_false h2
  have d3 : decide (b < a) = true := decide_eq_true (by omega)
  clear h
  go_enter Tryz.func33, Tryz.ntmps33
  go_wp2
  go_ret
  exact ⟨rfl, rfl⟩

set_option maxHeartbeats 2000000 in
set_option maxRecDepth 100000 in
theorem tune_ladder (a b : Int) (ha : I64 a) (hb : I64 b) (n : Int) (hn : I64 n) (w : World) :
    Calls Tryz.prog 33 #[.int .i64 a, .int .i64 b, .int .i64 n] w fun e w' => ∃ p c, e = .returned (.slice p (Lad.of a b n).length c) ∧ (Lad.of a b n).length ≤ c ∧ Ints .i64 w' p (Lad.of a b n) ∧ Below w.heap.size w w' := by
  by_cases h : n < 1 ∨ 256 < n ∨ b < a
  · have e0 : Lad.of a b n = [] := if_pos h
    rw [e0]
    refine (tune_ladder_no a b n h w).mono ?_
    rintro e w' ⟨rfl, rfl⟩
    exact ⟨none, 0, rfl, Nat.le_refl _, .inl rfl, Below.refl _ _⟩
  obtain ⟨M, rfl⟩ : ∃ M : Nat, n = (M : Int) + 1 := ⟨(n - 1).toNat, by omega⟩
  have e0 : Lad.of a b ((M : Int) + 1) = Lad.upto (Lad.at a b (Lad.step a b (M + 1)) (M + 1)) (M + 1) := by
    unfold Lad.of
    rw [if_neg h, show ((M : Int) + 1).toNat = M + 1 by omega]
  rw [e0]
  have s1 := sat_sub b a hb ha
  have s2 := sat_floor (Sat.clamp (b - a)) (M : Int) (Sat.clamp_I64 _)
  have est : Lad.step a b (M + 1) = Sat.floor (Sat.clamp (b - a)) (M : Int) := by unfold Lad.step; congr 1; omega
  obtain ⟨df, edf⟩ : ∃ x, x = Sat.clamp (b - a) := ⟨_, rfl⟩
  rw [← edf] at s1 s2 est
  obtain ⟨st, eqst⟩ : ∃ x, x = Lad.step a b (M + 1) := ⟨_, rfl⟩
  rw [← est, ← eqst] at s2
  have hst : I64 st := by rw [eqst]; exact Sat.floor_I64 _ _ (Sat.clamp_I64 _)
  rw [← eqst]
  have S1 := Lib.hid s1
  have S2 := Lib.hid s2
  have HST := Lib.hid hst
  have HA := Lib.hid ha
  have d1 : decide ((M : Int) + 1 < 1) = false := decide_eq_false (by omega)
  have d2 : decide ((256 : Int) < (M : Int) + 1) = false := decide_eq_false (by omega)
  have d3 : decide (b < a) = false := decide_eq_false (by omega)
  have hN2 : M + 1 ≤ 256 := by omega
  clear s1 s2 est edf eqst hst e0 h
  go_enter Tryz.func33, Tryz.ntmps33
  go_wp2_with fail
  (with_reducible refine (S1.out _).mono ?_)
  rintro e w1 ⟨rfl, rfl⟩
  go_wp2_with fail
  (with_reducible refine (S2.out _).mono ?_)
  rintro e w1 ⟨rfl, rfl⟩
  go_wp2
  go_loopw [8, 29] (fun s i wr => ∃ k : Nat, k ≤ M + 1 ∧ i = .int .i64 (k : Nat) ∧ Owns wr w.heap.size 1 s (Lad.upto (Lad.at a b st (M + 1)) k).length (intVals (Lad.upto (Lad.at a b st (M + 1)) k)) ∧ Below w.heap.size w wr) (fun _ i _ => M + 1 - (intOf i).toNat)
  case atStart => exact ⟨0, by omega, rfl, owns_nil _ _ _, Below.refl _ _⟩
  case round =>
    obtain ⟨k, hk, rfl, hO, hB⟩ := hrel
    by_cases hlt : k < M + 1
    · have dk : decide ((k : Int) < (M : Int) + 1) = true := decide_eq_true (by omega)
      have hle := Lad.len (Lad.at a b st (M + 1)) k
      have hI : Hid (I64 (Sat.clamp (st * k))) := Sat.clamp_I64 _
      have m1 := sat_mul st k HST.out (by unfold I64; omega)
      have m2 := sat_add a (Sat.clamp (st * k)) HA.out hI.out
      obtain ⟨y, ey⟩ : ∃ x, x = Sat.clamp (st * k) := ⟨_, rfl⟩
      rw [← ey] at m1 m2
      obtain ⟨z, ez⟩ : ∃ x, x = Sat.clamp (a + y) := ⟨_, rfl⟩
      rw [← ez] at m2
      have M1 := Lib.hid m1
      have M2 := Lib.hid m2
      have HL := Lib.hid (fun h : k + 1 = M + 1 ∧ 1 < M + 1 => Lad.at_last (a := a) (b := b) (st := st) h.1 h.2)
      have HM : Hid (¬ (k + 1 = M + 1 ∧ 1 < M + 1) → Lad.at a b st (M + 1) k = z) := fun h => by rw [Lad.at_mid h, ez, ey]
      obtain ⟨x, ex⟩ : ∃ x, x = Lad.at a b st (M + 1) k := ⟨_, rfl⟩
      rw [← ex] at HL HM
      have HNX : Hid (Lad.upto (Lad.at a b st (M + 1)) (k + 1) = Lad.next (Lad.upto (Lad.at a b st (M + 1)) k) x) := by show _ = _; rw [ex]; rfl
      have HY := Lib.hid (@Lad.next_yes (Lad.upto (Lad.at a b st (M + 1)) k) x)
      have HZ := Lib.hid (@Lad.next_no (Lad.upto (Lad.at a b st (M + 1)) k) x)
      obtain ⟨L2, eL2⟩ : ∃ L, L = Lad.upto (Lad.at a b st (M + 1)) (k + 1) := ⟨_, rfl⟩
      have E2 := Lib.hid eL2
      rw [← eL2] at HNX
      obtain ⟨L, eL⟩ : ∃ L, L = Lad.upto (Lad.at a b st (M + 1)) k := ⟨_, rfl⟩
      rw [← eL] at HNX HY HZ hO hle
      have HO := Lib.hid hO
      have HB := Lib.hid hB
      obtain ⟨m, em⟩ : ∃ m, m = L.length := ⟨_, rfl⟩
      rw [← em] at HO HY HZ hle
      obtain ⟨ps, cs, rfl, hcs, hns, hsl, _⟩ := HO.out.sl
      have HSL := Lib.hid hsl
      have HEM := Lib.hid em
      clear m1 m2 hO hB ex eL eL2 em hsl ey ez hns
      go_upto_region 9 with (first | ((with_reducible refine (M1.out _).mono ?_); rintro e w1 ⟨rfl, rfl⟩) | ((with_reducible refine (M2.out _).mono ?_); rintro e w1 ⟨rfl, rfl⟩))
      go_cut [44] from 37 to 63 (fun s44 wx => (∃ cb : Bool, s44 = .bool cb ∧ Hid (x = if cb then b else z)) ∧ wx = wr)
      case first =>
        clear HO HSL HY HZ HNX
        by_cases e1 : k = M
        · subst e1
          by_cases e2 : 1 < k + 1
          · have HX : Hid (x = if true = true then b else z) := HL.out ⟨rfl, e2⟩
            have b3 : decide ((1 : Int) < (k : Int) + 1) = true := decide_eq_true (by omega)
            clear HL HM
            go_wp2_with fail
            go_meet
            exact ⟨⟨true, rfl, HX.out⟩, rfl⟩
          · have HX : Hid (x = if false = true then b else z) := HM.out (fun h => e2 h.2)
            have b3 : decide ((1 : Int) < (k : Int) + 1) = false := decide_eq_false (by omega)
            clear HL HM
            go_wp2_with fail
            go_meet
            exact ⟨⟨false, rfl, HX.out⟩, rfl⟩
        · have b1 : ((k : Int) == (M : Int)) = false := beq_eq_false_iff_ne.2 (by omega)
          have HX : Hid (x = if false = true then b else z) := HM.out (fun h => e1 (by omega))
          clear HL HM
          go_wp2_with fail
          go_meet
          exact ⟨⟨false, rfl, HX.out⟩, rfl⟩
      case rest =>
        obtain ⟨⟨cb, rfl, hX⟩, rfl⟩ := hcut
        have HX := Lib.hid hX.out
        clear hX HL HM
        go_upto_if 44 with fail
        go_cut [10] from 37 to 63 (fun s10 wx => s10 = .int .i64 x ∧ wx = wc)
        case first =>
          clear HO HSL HY HZ HNX
          cases cb with
          | true =>
            have hx : x = b := HX.out
            have HX2 := Lib.hid hx
            clear hx HX
            go_wp2_with fail
            go_meet
            exact ⟨by rw [HX2.out], rfl⟩
          | false =>
            have hx : x = z := HX.out
            have HX2 := Lib.hid hx
            clear hx HX
            go_wp2_with fail
            go_meet
            exact ⟨by rw [HX2.out], rfl⟩
        case rest =>
          obtain ⟨rfl, rfl⟩ := hcut
          clear HX
          by_cases h0 : m = 0
          · subst h0
            have hx := HNX.out.trans (HY.out (.inl rfl))
            have HX := Lib.hid hx
            have hlm : L.length = 0 := HEM.out.symm
            have HLM := Lib.hid hlm
            clear hx hlm HNX HY HZ HSL HEM
            go_wp2_with (at_builtin; refine wpList_append_new rfl _ _ 38 rfl _ _ 2 rfl _ 2 (.int .i64 0) 1 8 Tryz.underlying38 i64Info rfl (by decide) _ _ _ rfl (HO.out) (by first | rfl | (rw [World.size_alloc]; rfl)) rfl (by first | (simp [Value.oneCell']; done) | (intro u hu; simp at hu; subst hu; rfl)) (by unfold maxLen; omega) (by omega) (Below.size (by assumption)) ?_; intro u1 x1 ha1 hg1 hc1)
            exact ⟨⟨k + 1, by omega, by go_num, by rw [← E2.out, HX.out, intVals_append, List.length_append, HLM.out]; exact ha1, HB.out.trans hc1⟩, by simp [intOf]; omega⟩
          · obtain ⟨q, rfl⟩ : ∃ q, m = q + 1 := ⟨m - 1, by omega⟩
            obtain ⟨g, off, rfl, hbg, hcell⟩ : ∃ g off, ps = some ⟨g, off, none⟩ ∧ g < wc.heap.size ∧ wc.cell? ⟨g, off + q, none⟩ = some (.int .i64 (L[q]?.getD 0)) := by
              rcases HSL.out with h | ⟨g, off, hp, hb, hcell⟩
              · omega
              · refine ⟨g, off, hp, hb, ?_⟩
                rw [hcell q (by omega)]
                have hj' : q < L.length := by have := HEM.out; omega
                simp [intVals, hj']
            rw [show q + 1 - 1 = q from rfl] at HY HZ
            obtain ⟨la, ela⟩ : ∃ la, la = L[q]?.getD 0 := ⟨_, rfl⟩
            rw [← ela] at hcell HY HZ
            by_cases h1 : la < x
            · have hx := HNX.out.trans (HY.out (.inr h1))
              have HX := Lib.hid hx
              have d4 : decide (la < x) = true := decide_eq_true h1
              clear hx HNX HY HZ HSL ela
              go_wp2_with (at_builtin; refine wpList_append_new rfl _ _ 38 rfl _ _ 2 rfl _ 2 (.int .i64 0) 1 8 Tryz.underlying38 i64Info rfl (by decide) _ _ _ rfl (HO.out) (by first | rfl | (rw [World.size_alloc]; rfl)) rfl (by first | (simp [Value.oneCell']; done) | (intro u hu; simp at hu; subst hu; rfl)) (by unfold maxLen; omega) (by omega) (Below.size (by assumption)) ?_; intro u1 x1 ha1 hg1 hc1)
              exact ⟨⟨k + 1, by omega, by go_num, by rw [← E2.out, HX.out, intVals_append, List.length_append, ← HEM.out]; exact ha1, HB.out.trans hc1⟩, by simp [intOf]; omega⟩
            · have hx := HNX.out.trans (HZ.out (fun h => h.elim (by omega) h1))
              have HX := Lib.hid hx
              have d4 : decide (la < x) = false := decide_eq_false h1
              clear hx HNX HY HZ HSL ela
              go_wp2
              exact ⟨⟨k + 1, by omega, by go_num, by rw [← E2.out, HX.out, ← HEM.out]; exact HO.out, HB.out⟩, by simp [intOf]; omega⟩
    · obtain rfl : k = M + 1 := by omega
      obtain ⟨p, c, rfl, hc, hs⟩ := ints_of_owns hO
      have HS := Lib.hid hs
      have HB := Lib.hid hB
      have HC := Lib.hid hc
      clear hO hB hs hc
      go_wp2
      go_ret
      exact ⟨_, _, rfl, HC.out, HS.out, HB.out⟩
end Go.Proofs.YtildjnibdappnaaGreat
