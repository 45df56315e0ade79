/- Layer 45: numbers that rise, by the reference. -/
import Derived.Test.YtildjnibdappnaaTune2
namespace Go.Proofs.Ytildjnibdappnaa
open Go.ChangeShapes Go.WideShapes Go.ChangeAt Go.RowKit

theorem Lad.step_one (a b : Int) : Lad.step a b (0 + 1) = 0 := by
  unfold Lad.step
  show Sat.floor _ ((1 : Int) - 1) = 0
  rfl

set_option maxHeartbeats 2000000 in
set_option maxRecDepth 100000 in
theorem ref45_ladder (a b : Int) (ha : I64 a) (hb : I64 b) (n : Int) (hn : I64 n) (w : World) :
    Calls Try.prog 37 #[.int .i64 a, .int .i64 b, .int .i64 n] w fun e w' => ∃ p c, e = .returned (.slice p (Lad.of a b n).length c) ∧ (Lad.of a b n).length ≤ c ∧ Ints .i64 w' p (Lad.of a b n) ∧ Below w.heap.size w w' := by
  by_cases h : n < 1 ∨ 256 < n ∨ b < a
  · have e0 : Lad.of a b n = [] := if_pos h
    rw [e0]
    refine (ref45_ladder_no a b n h w).mono ?_
    rintro e w' ⟨rfl, rfl⟩
    exact ⟨none, 0, rfl, Nat.le_refl _, .inl rfl, Below.refl _ _⟩
  obtain ⟨M, rfl⟩ : ∃ M : Nat, n = (M : Int) + 1 := ⟨(n - 1).toNat, by omega⟩
  have e0 : Lad.of a b ((M : Int) + 1) = Lad.upto (Lad.at a b (Lad.step a b (M + 1)) (M + 1)) (M + 1) := by
    unfold Lad.of
    rw [if_neg h, show ((M : Int) + 1).toNat = M + 1 by omega]
  rw [e0]
  have s1 := ref_sub b a hb ha
  have s2 := ref_floor (Sat.clamp (b - a)) (M : Int) (Sat.clamp_I64 _)
  have est : Lad.step a b (M + 1) = Sat.floor (Sat.clamp (b - a)) (M : Int) := by unfold Lad.step; congr 1; omega
  have hst0 : M = 0 → Lad.step a b (M + 1) = 0 := fun h => by rw [h]; exact Lad.step_one a b
  obtain ⟨df, edf⟩ : ∃ x, x = Sat.clamp (b - a) := ⟨_, rfl⟩
  rw [← edf] at s1 s2 est
  obtain ⟨st, eqst⟩ : ∃ x, x = Lad.step a b (M + 1) := ⟨_, rfl⟩
  rw [← est, ← eqst] at s2
  rw [← eqst] at hst0
  have hst : I64 st := by rw [eqst]; exact Sat.floor_I64 _ _ (Sat.clamp_I64 _)
  rw [← eqst]
  have S1 := Lib.hid s1
  have S2 := Lib.hid s2
  have HST := Lib.hid hst
  have HA := Lib.hid ha
  have d1 : decide ((M : Int) + 1 < 1) = false := decide_eq_false (by omega)
  have d2 : decide ((256 : Int) < (M : Int) + 1) = false := decide_eq_false (by omega)
  have d3 : decide (b < a) = false := decide_eq_false (by omega)
  have hN2 : M + 1 ≤ 256 := by omega
  clear s1 s2 est edf eqst hst e0 h
  by_cases hM : 1 < M + 1
  · have dM : decide ((1 : Int) < (M : Int) + 1) = true := decide_eq_true (by omega)
    clear hst0
    go_enter Try.func37, Try.ntmps37
    go_wp2_with fail
    (with_reducible refine (S1.out _).mono ?_)
    rintro e w1 ⟨rfl, rfl⟩
    go_wp2_with fail
    (with_reducible refine (S2.out _).mono ?_)
    rintro e w1 ⟨rfl, rfl⟩
    go_wp2
    go_loopw [8, 9] (fun s i wr => ∃ k : Nat, k ≤ M + 1 ∧ i = .int .i64 (k : Nat) ∧ Owns wr w.heap.size 1 s (Lad.upto (Lad.at a b st (M + 1)) k).length (intVals (Lad.upto (Lad.at a b st (M + 1)) k)) ∧ Below w.heap.size w wr) (fun _ i _ => M + 1 - (intOf i).toNat)
    case atStart => exact ⟨0, by omega, rfl, owns_nil _ _ _, Below.refl _ _⟩
    case round =>
      obtain ⟨k, hk, rfl, hO, hB⟩ := hrel
      by_cases hlt : k < M + 1
      · have dk : decide ((k : Int) < (M : Int) + 1) = true := decide_eq_true (by omega)
        have hle := Lad.len (Lad.at a b st (M + 1)) k
        have hI : Hid (I64 (Sat.clamp (st * k))) := Sat.clamp_I64 _
        have m1 := ref_mul st k HST.out (by unfold I64; omega)
        have m2 := ref_add a (Sat.clamp (st * k)) HA.out hI.out
        obtain ⟨y, ey⟩ : ∃ x, x = Sat.clamp (st * k) := ⟨_, rfl⟩
        rw [← ey] at m1 m2
        obtain ⟨z, ez⟩ : ∃ x, x = Sat.clamp (a + y) := ⟨_, rfl⟩
        rw [← ez] at m2
        have M1 := Lib.hid m1
        have M2 := Lib.hid m2
        have HL := Lib.hid (fun h : k + 1 = M + 1 ∧ 1 < M + 1 => Lad.at_last (a := a) (b := b) (st := st) h.1 h.2)
        have HM : Hid (¬ (k + 1 = M + 1 ∧ 1 < M + 1) → Lad.at a b st (M + 1) k = z) := fun h => by rw [Lad.at_mid h, ez, ey]
        obtain ⟨x, ex⟩ : ∃ x, x = Lad.at a b st (M + 1) k := ⟨_, rfl⟩
        rw [← ex] at HL HM
        have HNX : Hid (Lad.upto (Lad.at a b st (M + 1)) (k + 1) = Lad.next (Lad.upto (Lad.at a b st (M + 1)) k) x) := by show _ = _; rw [ex]; rfl
        have hsp := Lad.above_spec (Lad.at a b st (M + 1)) k x
        obtain ⟨L2, eL2⟩ : ∃ L, L = Lad.upto (Lad.at a b st (M + 1)) (k + 1) := ⟨_, rfl⟩
        have E2 := Lib.hid eL2
        rw [← eL2] at HNX
        obtain ⟨L, eL⟩ : ∃ L, L = Lad.upto (Lad.at a b st (M + 1)) k := ⟨_, rfl⟩
        rw [← eL] at HNX hO hle hsp
        have HYES : Hid (Lad.above L x L.length = true → L2 = L ++ [x]) := fun h => HNX.out.trans (Lad.next_yes (of_decide_eq_true (hsp.symm.trans h)))
        have HNOT : Hid (Lad.above L x L.length = false → L2 = L) := fun h => HNX.out.trans (Lad.next_no (of_decide_eq_false (hsp.symm.trans h)))
        have HAN := Lib.hid (Lad.above_next L x)
        have HO := Lib.hid hO
        have HB := Lib.hid hB
        obtain ⟨m, em⟩ : ∃ m, m = L.length := ⟨_, rfl⟩
        rw [← em] at HO HYES HNOT hle HAN
        obtain ⟨ps, cs, rfl, hcs, hns, hsl, _⟩ := HO.out.sl
        have HSL : Hid (∀ j, j < m → ∃ g off, ps = some ⟨g, off, none⟩ ∧ g < wr.heap.size ∧ wr.cell? ⟨g, off + j, none⟩ = some (.int .i64 (L[j]?.getD 0))) := fun j hj => by
          rcases hsl with h | ⟨g, off, hp, hb, hcell⟩
          · omega
          · refine ⟨g, off, hp, hb, ?_⟩
            rw [hcell j (by omega)]
            have hj' : j < L.length := by omega
            simp [intVals, hj']
        have HEM := Lib.hid em
        clear m1 m2 hO hB ex eL eL2 em hsl ey ez hns hsp HNX
        go_upto_region 11 with (first | ((with_reducible refine (M1.out _).mono ?_); rintro e w1 ⟨rfl, rfl⟩) | ((with_reducible refine (M2.out _).mono ?_); rintro e w1 ⟨rfl, rfl⟩))
        go_cut [49] from 42 to 67 (fun s49 wx => (∃ cb : Bool, s49 = .bool cb ∧ Hid (x = if cb then b else z)) ∧ wx = wr)
        case first =>
          clear HO HSL HYES HNOT HAN
          have e2 := hM
          by_cases e1 : k = M
          · subst e1
            have HX : Hid (x = if true = true then b else z) := HL.out ⟨rfl, e2⟩
            clear HL HM
            go_wp2_with fail
            go_meet
            exact ⟨⟨true, rfl, HX.out⟩, rfl⟩
          · have b1 : ((k : Int) == (M : Int)) = false := beq_eq_false_iff_ne.2 (by omega)
            have HX : Hid (x = if false = true then b else z) := HM.out (fun h => e1 (by omega))
            clear HL HM
            go_wp2_with fail
            go_meet
            exact ⟨⟨false, rfl, HX.out⟩, rfl⟩
        case rest =>
          obtain ⟨⟨cb, rfl, hX⟩, rfl⟩ := hcut
          have HX := Lib.hid hX.out
          clear hX HL HM
          go_upto_if 49 with fail
          go_cut [10] from 42 to 67 (fun s10 wx => s10 = .int .i64 x ∧ wx = wc)
          case first =>
            clear HO HSL HYES HNOT HAN
            cases cb with
            | true =>
              have hx : x = b := HX.out
              have HX2 := Lib.hid hx
              clear hx HX
              go_wp2_with fail
              go_meet
              exact ⟨by rw [HX2.out], rfl⟩
            | false =>
              have hx : x = z := HX.out
              have HX2 := Lib.hid hx
              clear hx HX
              go_wp2_with fail
              go_meet
              exact ⟨by rw [HX2.out], rfl⟩
          case rest =>
            obtain ⟨rfl, rfl⟩ := hcut
            clear HX
            have hA0 : Hid (Lad.above L x 0 = true) := by show _ = _; unfold Lad.above; simp
            go_wp2
            go_loopw [11, 12] (fun al j wr2 => ∃ jj : Nat, jj ≤ m ∧ j = .int .i64 (jj : Nat) ∧ al = .bool (Lad.above L x jj) ∧ wr2 = wc) (fun _ j _ => m - (intOf j).toNat)
            case atStart => exact ⟨0, by omega, rfl, by rw [hA0.out], rfl⟩
            case round =>
              obtain ⟨jj, hjj, rfl, rfl, rfl⟩ := hrel
              by_cases hlj : jj < m
              · obtain ⟨g, off, rfl, hbg, hcell⟩ := HSL.out jj hlj
                have han := HAN.out jj (by have := HEM.out; omega)
                obtain ⟨la, ela⟩ : ∃ la, la = L[jj]?.getD 0 := ⟨_, rfl⟩
                rw [← ela] at hcell han
                obtain ⟨ab, eab⟩ : ∃ ab, ab = Lad.above L x jj := ⟨_, rfl⟩
                rw [← eab] at han
                have EAB := Lib.hid eab
                clear ela eab HSL HAN HYES HNOT
                by_cases h1 : x ≤ la
                · have d5 : decide (x ≤ la) = true := decide_eq_true h1
                  have HN : Hid (Lad.above L x (jj + 1) = false) := by show _ = _; rw [han, decide_eq_false (by omega)]; simp
                  clear han
                  go_wp2
                  exact ⟨⟨jj + 1, by omega, by go_num, by rw [HN.out], by trivial⟩, by simp [intOf]; omega⟩
                · have d5 : decide (x ≤ la) = false := decide_eq_false h1
                  have HN : Hid (Lad.above L x (jj + 1) = ab) := by show _ = _; rw [han, decide_eq_true (by omega)]; simp
                  clear han
                  go_wp2
                  exact ⟨⟨jj + 1, by omega, by go_num, by rw [HN.out, EAB.out], by trivial⟩, by simp [intOf]; omega⟩
              · obtain rfl : jj = m := by omega
                cases hab : Lad.above L x jj with
                | true =>
                  have hx := HYES.out hab
                  have HX := Lib.hid hx
                  clear hx HYES HNOT HSL HAN hab hA0
                  go_wp2_with (at_builtin; refine wpList_append_new rfl _ _ 57 rfl _ _ 2 rfl _ 2 (.int .i64 0) 1 8 Try.underlying57 i64Info rfl (by decide) _ _ _ rfl (HO.out) (by first | rfl | (rw [World.size_alloc]; rfl)) rfl (by first | (simp [Value.oneCell']; done) | (intro u hu; simp at hu; subst hu; rfl)) (by unfold maxLen; omega) (by omega) (Below.size (by assumption)) ?_; intro u1 x1 ha1 hg1 hc1)
                  exact ⟨⟨k + 1, by omega, by go_num, by rw [← E2.out, HX.out, intVals_append, List.length_append, ← HEM.out]; exact ha1, HB.out.trans hc1⟩, by simp [intOf]; omega⟩
                | false =>
                  have hx := HNOT.out hab
                  have HX := Lib.hid hx
                  clear hx HYES HNOT HSL HAN hab hA0
                  go_wp2
                  exact ⟨⟨k + 1, by omega, by go_num, by rw [← E2.out, HX.out, ← HEM.out]; exact HO.out, HB.out⟩, by simp [intOf]; omega⟩
      · obtain rfl : k = M + 1 := by omega
        obtain ⟨p, c, rfl, hc, hs⟩ := ints_of_owns hO
        have HS := Lib.hid hs
        have HB := Lib.hid hB
        have HC := Lib.hid hc
        clear hO hB hs hc
        go_wp2
        go_ret
        exact ⟨_, _, rfl, HC.out, HS.out, HB.out⟩
  · have dM : decide ((1 : Int) < (M : Int) + 1) = false := decide_eq_false (by omega)
    obtain rfl : st = 0 := hst0 (by omega)
    clear hst0
    go_enter Try.func37, Try.ntmps37
    go_wp2
    go_loopw [8, 9] (fun s i wr => ∃ k : Nat, k ≤ M + 1 ∧ i = .int .i64 (k : Nat) ∧ Owns wr w.heap.size 1 s (Lad.upto (Lad.at a b (0 : Int) (M + 1)) k).length (intVals (Lad.upto (Lad.at a b (0 : Int) (M + 1)) k)) ∧ Below w.heap.size w wr) (fun _ i _ => M + 1 - (intOf i).toNat)
    case atStart => exact ⟨0, by omega, rfl, owns_nil _ _ _, Below.refl _ _⟩
    case round =>
      obtain ⟨k, hk, rfl, hO, hB⟩ := hrel
      by_cases hlt : k < M + 1
      · have dk : decide ((k : Int) < (M : Int) + 1) = true := decide_eq_true (by omega)
        have hle := Lad.len (Lad.at a b (0 : Int) (M + 1)) k
        have hI : Hid (I64 (Sat.clamp ((0 : Int) * k))) := Sat.clamp_I64 _
        have m1 := ref_mul (0 : Int) k HST.out (by unfold I64; omega)
        have m2 := ref_add a (Sat.clamp ((0 : Int) * k)) HA.out hI.out
        obtain ⟨y, ey⟩ : ∃ x, x = Sat.clamp ((0 : Int) * k) := ⟨_, rfl⟩
        rw [← ey] at m1 m2
        obtain ⟨z, ez⟩ : ∃ x, x = Sat.clamp (a + y) := ⟨_, rfl⟩
        rw [← ez] at m2
        have M1 := Lib.hid m1
        have M2 := Lib.hid m2
        have HL := Lib.hid (fun h : k + 1 = M + 1 ∧ 1 < M + 1 => Lad.at_last (a := a) (b := b) (st := (0 : Int)) h.1 h.2)
        have HM : Hid (¬ (k + 1 = M + 1 ∧ 1 < M + 1) → Lad.at a b (0 : Int) (M + 1) k = z) := fun h => by rw [Lad.at_mid h, ez, ey]
        obtain ⟨x, ex⟩ : ∃ x, x = Lad.at a b (0 : Int) (M + 1) k := ⟨_, rfl⟩
        rw [← ex] at HL HM
        have HNX : Hid (Lad.upto (Lad.at a b (0 : Int) (M + 1)) (k + 1) = Lad.next (Lad.upto (Lad.at a b (0 : Int) (M + 1)) k) x) := by show _ = _; rw [ex]; rfl
        have hsp := Lad.above_spec (Lad.at a b (0 : Int) (M + 1)) k x
        obtain ⟨L2, eL2⟩ : ∃ L, L = Lad.upto (Lad.at a b (0 : Int) (M + 1)) (k + 1) := ⟨_, rfl⟩
        have E2 := Lib.hid eL2
        rw [← eL2] at HNX
        obtain ⟨L, eL⟩ : ∃ L, L = Lad.upto (Lad.at a b (0 : Int) (M + 1)) k := ⟨_, rfl⟩
        rw [← eL] at HNX hO hle hsp
        have HYES : Hid (Lad.above L x L.length = true → L2 = L ++ [x]) := fun h => HNX.out.trans (Lad.next_yes (of_decide_eq_true (hsp.symm.trans h)))
        have HNOT : Hid (Lad.above L x L.length = false → L2 = L) := fun h => HNX.out.trans (Lad.next_no (of_decide_eq_false (hsp.symm.trans h)))
        have HAN := Lib.hid (Lad.above_next L x)
        have HO := Lib.hid hO
        have HB := Lib.hid hB
        obtain ⟨m, em⟩ : ∃ m, m = L.length := ⟨_, rfl⟩
        rw [← em] at HO HYES HNOT hle HAN
        obtain ⟨ps, cs, rfl, hcs, hns, hsl, _⟩ := HO.out.sl
        have HSL : Hid (∀ j, j < m → ∃ g off, ps = some ⟨g, off, none⟩ ∧ g < wr.heap.size ∧ wr.cell? ⟨g, off + j, none⟩ = some (.int .i64 (L[j]?.getD 0))) := fun j hj => by
          rcases hsl with h | ⟨g, off, hp, hb, hcell⟩
          · omega
          · refine ⟨g, off, hp, hb, ?_⟩
            rw [hcell j (by omega)]
            have hj' : j < L.length := by omega
            simp [intVals, hj']
        have HEM := Lib.hid em
        clear m1 m2 hO hB ex eL eL2 em hsl ey ez hns hsp HNX
        go_upto_region 11 with (first | ((with_reducible refine (M1.out _).mono ?_); rintro e w1 ⟨rfl, rfl⟩) | ((with_reducible refine (M2.out _).mono ?_); rintro e w1 ⟨rfl, rfl⟩))
        go_cut [49] from 42 to 67 (fun s49 wx => (∃ cb : Bool, s49 = .bool cb ∧ Hid (x = if cb then b else z)) ∧ wx = wr)
        case first =>
          clear HO HSL HYES HNOT HAN
          have HX : Hid (x = if false = true then b else z) := HM.out (fun h => hM h.2)
          clear HL HM
          go_wp2_with fail
          go_meet
          exact ⟨⟨false, rfl, HX.out⟩, rfl⟩
        case rest =>
          obtain ⟨⟨cb, rfl, hX⟩, rfl⟩ := hcut
          have HX := Lib.hid hX.out
          clear hX HL HM
          go_upto_if 49 with fail
          go_cut [10] from 42 to 67 (fun s10 wx => s10 = .int .i64 x ∧ wx = wc)
          case first =>
            clear HO HSL HYES HNOT HAN
            cases cb with
            | true =>
              have hx : x = b := HX.out
              have HX2 := Lib.hid hx
              clear hx HX
              go_wp2_with fail
              go_meet
              exact ⟨by rw [HX2.out], rfl⟩
            | false =>
              have hx : x = z := HX.out
              have HX2 := Lib.hid hx
              clear hx HX
              go_wp2_with fail
              go_meet
              exact ⟨by rw [HX2.out], rfl⟩
          case rest =>
            obtain ⟨rfl, rfl⟩ := hcut
            clear HX
            have hA0 : Hid (Lad.above L x 0 = true) := by show _ = _; unfold Lad.above; simp
            go_wp2
            go_loopw [11, 12] (fun al j wr2 => ∃ jj : Nat, jj ≤ m ∧ j = .int .i64 (jj : Nat) ∧ al = .bool (Lad.above L x jj) ∧ wr2 = wc) (fun _ j _ => m - (intOf j).toNat)
            case atStart => exact ⟨0, by omega, rfl, by rw [hA0.out], rfl⟩
            case round =>
              obtain ⟨jj, hjj, rfl, rfl, rfl⟩ := hrel
              by_cases hlj : jj < m
              · obtain ⟨g, off, rfl, hbg, hcell⟩ := HSL.out jj hlj
                have han := HAN.out jj (by have := HEM.out; omega)
                obtain ⟨la, ela⟩ : ∃ la, la = L[jj]?.getD 0 := ⟨_, rfl⟩
                rw [← ela] at hcell han
                obtain ⟨ab, eab⟩ : ∃ ab, ab = Lad.above L x jj := ⟨_, rfl⟩
                rw [← eab] at han
                have EAB := Lib.hid eab
                clear ela eab HSL HAN HYES HNOT
                by_cases h1 : x ≤ la
                · have d5 : decide (x ≤ la) = true := decide_eq_true h1
                  have HN : Hid (Lad.above L x (jj + 1) = false) := by show _ = _; rw [han, decide_eq_false (by omega)]; simp
                  clear han
                  go_wp2
                  exact ⟨⟨jj + 1, by omega, by go_num, by rw [HN.out], by trivial⟩, by simp [intOf]; omega⟩
                · have d5 : decide (x ≤ la) = false := decide_eq_false h1
                  have HN : Hid (Lad.above L x (jj + 1) = ab) := by show _ = _; rw [han, decide_eq_true (by omega)]; simp
                  clear han
                  go_wp2
                  exact ⟨⟨jj + 1, by omega, by go_num, by rw [HN.out, EAB.out], by trivial⟩, by simp [intOf]; omega⟩
              · obtain rfl : jj = m := by omega
                cases hab : Lad.above L x jj with
                | true =>
                  have hx := HYES.out hab
                  have HX := Lib.hid hx
                  clear hx HYES HNOT HSL HAN hab hA0
                  go_wp2_with (at_builtin; refine wpList_append_new rfl _ _ 57 rfl _ _ 2 rfl _ 2 (.int .i64 0) 1 8 Try.underlying57 i64Info rfl (by decide) _ _ _ rfl (HO.out) (by first | rfl | (rw [World.size_alloc]; rfl)) rfl (by first | (simp [Value.oneCell']; done) | (intro u hu; simp at hu; subst hu; rfl)) (by unfold maxLen; omega) (by omega) (Below.size (by assumption)) ?_; intro u1 x1 ha1 hg1 hc1)
                  exact ⟨⟨k + 1, by omega, by go_num, by rw [← E2.out, HX.out, intVals_append, List.length_append, ← HEM.out]; exact ha1, HB.out.trans hc1⟩, by simp [intOf]; omega⟩
                | false =>
                  have hx := HNOT.out hab
                  have HX := Lib.hid hx
                  clear hx HYES HNOT HSL HAN hab hA0
                  go_wp2
                  exact ⟨⟨k + 1, by omega, by go_num, by rw [← E2.out, HX.out, ← HEM.out]; exact HO.out, HB.out⟩, by simp [intOf]; omega⟩
      · obtain rfl : k = M + 1 := by omega
        obtain ⟨p, c, rfl, hc, hs⟩ := ints_of_owns hO
        have HS := Lib.hid hs
        have HB := Lib.hid hB
        have HC := Lib.hid hc
        clear hO hB hs hc
        go_wp2
        go_ret
        exact ⟨_, _, rfl, HC.out, HS.out, HB.out⟩
end Go.Proofs.Ytildjnibdappnaa
