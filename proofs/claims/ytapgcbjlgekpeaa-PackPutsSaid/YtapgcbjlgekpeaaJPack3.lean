/- Layer 11: the reference's check, and its bytes. -/
import Derived.Test.YtapgcbjlgekpeaaJPack2
namespace Go.Proofs.Ytapgcbjlgekpeaa
open Go.ChangeShapes Go.WideShapes Go.ChangeAt Go.RowKit

set_option maxHeartbeats 1000000 in
set_option maxRecDepth 100000 in
theorem ref11_check (p : Option Addr) (cap : Nat) (l : List Samp) (hb : l.length ≤ 9223372036854775806) (w : World) (hs : Samps w p l) :
    Calls Try.prog 33 #[.slice p l.length cap] w fun e w' => e = .returned (.int .i64 (Pk.check l)) ∧ Below w.heap.size w w' := by
  by_cases h256 : 256 < l.length
  · have hc : Pk.check l = 12 := if_pos h256
    rw [hc]
    obtain ⟨n, en⟩ : ∃ n, n = l.length := ⟨_, rfl⟩
    rw [← en] at h256 hb ⊢
    clear en hs hc
    have d : decide ((256 : Int) < n) = true := decide_eq_true (by omega)
    go_enter Try.func33, Try.ntmps33
    go_wp2
    go_ret
    exact ⟨rfl, Below.refl _ _⟩
  have HS := Lib.hid hs
  have HSTOP := Lib.hid (fun (k : Nat) => Pk.check_stop (l := l) (k := k) h256)
  have HFINE := Lib.hid (Pk.check_fine (l := l) h256)
  obtain ⟨r, er⟩ : ∃ r, r = Pk.check l := ⟨_, rfl⟩
  rw [← er] at HFINE ⊢
  simp only [← er] at HSTOP
  obtain ⟨n, en⟩ : ∃ n, n = l.length := ⟨_, rfl⟩
  have EN := Lib.hid en
  rw [← en] at h256 hb HFINE ⊢
  simp only [← en] at HSTOP
  clear hs en er
  have d : decide ((256 : Int) < n) = false := decide_eq_false (by omega)
  go_enter Try.func33, Try.ntmps33
  go_wp2
  go_loopw [3] (fun i wr => ∃ k : Nat, k ≤ n ∧ i = .int .i64 (k : Nat) ∧ Pk.upto l k = 0 ∧ Below w.heap.size w wr) (fun i _ => n - (intOf i).toNat)
  case atStart => exact ⟨0, by omega, rfl, rfl, Below.refl _ _⟩
  case round =>
    obtain ⟨k, hk, rfl, hup, hB⟩ := hrel
    by_cases hlt : k < n
    · have hkl : k < l.length := by have := EN.out; omega
      obtain ⟨b, off, rfl, hbw, c0, c1⟩ := HS.out.cells k hkl
      rw [← hB.cell (p := ⟨_, _, none⟩) hbw] at c0 c1
      have hprev : k = 0 ∧ Pk.pt l k = -1 ∨ ∃ j, k = j + 1 ∧ wr.cell? ⟨b, off + j * 2, none⟩ = some (.int .i64 (Pk.pt l k)) := by
        by_cases h0 : k = 0
        · exact .inl ⟨h0, if_pos h0⟩
        · obtain ⟨j, rfl⟩ : ∃ j, k = j + 1 := ⟨k - 1, by omega⟩
          obtain ⟨b', off', e', hbw', c0', c1'⟩ := HS.out.cells j (by omega)
          simp only [Option.some.injEq, Addr.mk.injEq, and_true] at e'
          obtain ⟨rfl, rfl⟩ := e'
          rw [← hB.cell (p := ⟨_, _, none⟩) hbw'] at c0'
          exact .inr ⟨j, rfl, c0'⟩
      have hone : Pk.one l k = if Ser.code (Pk.at l k) = 0 then (if (Pk.at l k).tick ≤ Pk.pt l k then 15 else 0) else Ser.code (Pk.at l k) := rfl
      have hst := HSTOP.out k hlt hup
      have hnx := Pk.upto_next hup
      have hcc := Pk.code_cases (Pk.at l k)
      change _ = some (Value.int .i64 (Pk.at l k).tick) at c0
      change _ = some (Value.int .i64 (Pk.at l k).val) at c1
      obtain ⟨cd, ecd⟩ : ∃ c, c = Ser.code (Pk.at l k) := ⟨_, rfl⟩
      simp only [← ecd] at hone hcc
      obtain ⟨⟨tick, val⟩, ex⟩ : ∃ x, x = Pk.at l k := ⟨_, rfl⟩
      rw [← ex] at c0 c1 hone hcc
      simp only at hcc hone
      obtain ⟨pt, ept⟩ : ∃ x, x = Pk.pt l k := ⟨_, rfl⟩
      rw [← ept] at hone hprev
      obtain ⟨o, eo⟩ : ∃ x, x = Pk.one l k := ⟨_, rfl⟩
      rw [← eo] at hone hst hnx
      have HONE := Lib.hid hone
      have HST := Lib.hid hst
      have HNX := Lib.hid hnx
      have BB := Lib.hid hB
      clear hB hone hst hnx ecd ex ept eo hkl hbw
      rcases hcc with ⟨h1, hc⟩ | ⟨h1, h2, hc⟩ | ⟨h1, h2, hc⟩
      · subst hc
        have HF := Lib.hid ((HST.out (by rw [HONE.out, if_neg (by decide)]; decide)).trans (HONE.out.trans (if_neg (by decide))))
        clear HONE HST HNX hprev
        go_wp2
        go_ret
        exact ⟨by rw [HF.out]; rfl, BB.out⟩
      · subst hc
        have HF := Lib.hid ((HST.out (by rw [HONE.out, if_neg (by decide)]; decide)).trans (HONE.out.trans (if_neg (by decide))))
        clear HONE HST HNX hprev
        go_wp2
        go_ret
        exact ⟨by rw [HF.out]; rfl, BB.out⟩
      · subst hc
        rcases hprev with ⟨rfl, rfl⟩ | ⟨j, rfl, c2⟩
        · have HF := Lib.hid (HNX.out.trans (HONE.out.trans ((if_pos rfl).trans (if_neg (show ¬ tick ≤ -1 by omega)))))
          clear HONE HST HNX
          rw [Nat.zero_mul, Nat.add_zero] at c0 c1
          go_wp2
          go_quiet (fail)
          any_goals (first | exact undef | skip)
          go_wp2
          exact ⟨⟨1, by omega, by go_num, HF.out, below_drewN BB.out _⟩, by simp [intOf]; omega⟩
        · have i1 : (0 : Int) ≤ j := by omega
          have i2 : (j : Int) + 1 < n := by omega
          by_cases hle : tick ≤ pt
          · have HF := Lib.hid ((HST.out (by rw [HONE.out, if_pos rfl, if_pos hle]; decide)).trans (HONE.out.trans ((if_pos rfl).trans (if_pos hle))))
            clear HONE HST HNX
            go_wp2
            go_quiet (fail)
            go_wp2
            go_ret
            exact ⟨by rw [HF.out]; rfl, below_drewN BB.out _⟩
          · have HF := Lib.hid (HNX.out.trans (HONE.out.trans ((if_pos rfl).trans (if_neg hle))))
            have dle : decide (tick ≤ pt) = false := decide_eq_false hle
            clear HONE HST HNX
            go_wp2
            go_quiet (fail)
            go_wp2
            exact ⟨⟨j + 1 + 1, by omega, by go_num, HF.out, below_drewN BB.out _⟩, by simp [intOf]; omega⟩
    · obtain rfl : k = n := by omega
      have HF := Lib.hid (HFINE.out hup)
      have B := Lib.hid hB
      clear hup hB
      go_wp2
      go_ret
      exact ⟨by rw [HF.out]; rfl, B.out⟩

set_option maxHeartbeats 2000000 in
set_option maxRecDepth 100000 in
theorem ref11_put (p : Option Addr) (cap : Nat) (l : List Samp) (hl : ∀ a ∈ l, a.In) (hgood : Pk.check l = 0) (w : World) (hs : Samps w p l) :
    Calls Try.prog 37 #[.slice p l.length cap] w (RetOwn w 1 (Zig.put (Pk.nums l l.length)).length (byteVals (Zig.put (Pk.nums l l.length)))) := by
  have hlen := (Pk.check_all hgood).1
  have HS := Lib.hid hs
  have HALL := Lib.hid (fun k hk => (Pk.check_all hgood).2 k hk)
  have HAHD := Lib.hid (fun k hk => Pk.ahead hl hgood k hk)
  have HIN := Lib.hid (fun k hk => Pk.in_at hl k hk)
  have HPN := Lib.hid (Pk.put_next l)
  have HPL : Hid (∀ k, k ≤ l.length → (Zig.put (Pk.nums l k)).length ≤ 10 * (2 * k + 1)) := fun k hk => by
    have := Zig.put_len (Pk.nums l k) (Pk.nums_I64 hl hgood k hk) (Pk.nums l k).length (Nat.le_refl _)
    rw [List.take_length, Pk.nums_len] at this
    exact this
  have P0 := ref_zigPut (l.length : Int) (by unfold I64; omega)
  rw [← Pk.put_zero] at P0
  have HP0 := Lib.hid P0
  obtain ⟨n, en⟩ : ∃ n, n = l.length := ⟨_, rfl⟩
  have EN := Lib.hid en
  rw [← en] at hlen HP0 ⊢
  clear hs en hl P0 hgood
  go_enter Try.func37, Try.ntmps37
  go_wp2_with fail
  (with_reducible refine (HP0.out _).mono ?_)
  rintro e w1 ⟨v1, rfl, hO, hB⟩
  have O1 := Lib.hid hO
  have B1 := Lib.hid hB
  clear hO hB HP0
  go_wp2
  go_loopw [3, 4] (fun v i wr => ∃ k : Nat, k ≤ n ∧ i = .int .i64 (k : Nat) ∧ Owns wr w.heap.size 1 v (Zig.put (Pk.nums l k)).length (byteVals (Zig.put (Pk.nums l k))) ∧ Below w.heap.size w wr) (fun _ i _ => n - (intOf i).toNat)
  case atStart => exact ⟨0, by omega, rfl, O1.out, B1.out⟩
  case round =>
    obtain ⟨k, hk, rfl, hO, hB⟩ := hrel
    have HO := Lib.hid hO
    have HB := Lib.hid hB
    by_cases hlt : k < n
    · have hkl : k < l.length := by have := EN.out; omega
      obtain ⟨b, off, rfl, hbw, c0, c1⟩ := HS.out.cells k hkl
      rw [← hB.cell (p := ⟨_, _, none⟩) hbw] at c0 c1
      have hprev : k = 0 ∧ Pk.pt l k = -1 ∧ Pk.pv l k = 0 ∨ ∃ j, k = j + 1 ∧ wr.cell? ⟨b, off + j * 2, none⟩ = some (.int .i64 (Pk.pt l k)) ∧ wr.cell? ⟨b, off + j * 2 + 1, none⟩ = some (.int .i64 (Pk.pv l k)) := by
        by_cases h0 : k = 0
        · exact .inl ⟨h0, if_pos h0, if_pos h0⟩
        · obtain ⟨j, rfl⟩ : ∃ j, k = j + 1 := ⟨k - 1, by omega⟩
          obtain ⟨b', off', e', hbw', c0', c1'⟩ := HS.out.cells j (by omega)
          simp only [Option.some.injEq, Addr.mk.injEq, and_true] at e'
          obtain ⟨rfl, rfl⟩ := e'
          rw [← hB.cell (p := ⟨_, _, none⟩) hbw'] at c0' c1'
          exact .inr ⟨j, rfl, c0', c1'⟩
      obtain ⟨t0, v0, p0⟩ := HALL.out k hkl
      obtain ⟨a1, a2, a3, a4⟩ := HAHD.out k (by omega)
      have t1 := (HIN.out k hkl).1.2
      have v1 := (HIN.out k hkl).2.2
      have hpn := HPN.out k
      have hpl := HPL.out k (by omega)
      change _ = some (Value.int .i64 (Pk.at l k).tick) at c0
      change _ = some (Value.int .i64 (Pk.at l k).val) at c1
      obtain ⟨⟨tick, val⟩, ex⟩ : ∃ x, x = Pk.at l k := ⟨_, rfl⟩
      rw [← ex] at c0 c1 hpn t0 v0 p0 t1 v1
      obtain ⟨pt, ept⟩ : ∃ x, x = Pk.pt l k := ⟨_, rfl⟩
      obtain ⟨pv, epv⟩ : ∃ x, x = Pk.pv l k := ⟨_, rfl⟩
      rw [← ept] at a1 a2 p0
      rw [← epv] at a3 a4
      rw [← ept, ← epv] at hpn hprev
      simp only at c0 c1 hpn t0 v0 p0 t1 v1
      obtain ⟨d2, ed2⟩ : ∃ d, d = tick - pt - 1 := ⟨_, rfl⟩
      obtain ⟨d3, ed3⟩ : ∃ d, d = val - pv := ⟨_, rfl⟩
      rw [← ed2, ← ed3] at hpn
      have hI2 : I64 d2 := by unfold I64; omega
      have hI3 : I64 d3 := by unfold I64; omega
      have hq2 := ref_zigPut d2 hI2
      have hq3 := ref_zigPut d3 hI3
      have hl2 := Zig.bytes_len64 (Zig.zig d2) (Zig.zig_lt d2 hI2)
      have hl3 := Zig.bytes_len64 (Zig.zig d3) (Zig.zig_lt d3 hI3)
      obtain ⟨z2, ez2⟩ : ∃ z, z = Zig.bytes (Zig.zig d2) := ⟨_, rfl⟩
      obtain ⟨z3, ez3⟩ : ∃ z, z = Zig.bytes (Zig.zig d3) := ⟨_, rfl⟩
      rw [← ez2] at hq2 hpn hl2
      rw [← ez3] at hq3 hpn hl3
      obtain ⟨acc, eacc⟩ : ∃ acc, acc = Zig.put (Pk.nums l k) := ⟨_, rfl⟩
      rw [← eacc] at HO hpn hpl
      have HPN2 := Lib.hid hpn
      have Q2 := Lib.hid hq2
      have Q3 := Lib.hid hq3
      have HKN := Lib.hid (show k + 1 ≤ n by omega)
      have HKM := Lib.hid (show n - (k + 1) < n - k by omega)
      have hlacc : acc.length ≤ 20000 := by omega
      have hlacc2 : (acc ++ z2).length ≤ 20010 := by rw [List.length_append]; omega
      have H3 : Hid (wrap64 (wrap64 (tick - pt) - 1) = d2 ∧ wrap64 (val - pv) = d3) := ⟨by unfold wrap64; omega, by unfold wrap64; omega⟩
      have H0 : Hid (k = 0 → tick = d2 ∧ val = d3) := fun h => by
        rcases hprev with ⟨_, h1, h2⟩ | ⟨j, h1, _⟩
        · omega
        · omega
      obtain ⟨d1, ed1⟩ : ∃ d, d = wrap64 (tick - pt) := ⟨_, rfl⟩
      have E1 := Lib.hid ed1
      rw [← ed1] at H3
      clear hO hB hpn hq2 hq3 ez2 ez3 eacc ex ept epv ed1 ed2 ed3 hkl hbw t0 v0 p0 t1 v1 a1 a2 a3 a4 hI2 hI3 hpl
      rcases hprev with ⟨rfl, _, _⟩ | ⟨j, rfl, c2, c3⟩
      · obtain ⟨rfl, rfl⟩ := H0.out rfl
        clear H0 H3 E1
        rw [Nat.zero_mul, Nat.add_zero] at c0 c1
        go_wp2_with fail
        (with_reducible refine (Q2.out _).mono ?_)
        rintro e w5 ⟨v5, rfl, hO5, hB5⟩
        obtain ⟨q5, c5, rfl, _, hq50, _, hq5⟩ := hO5.sl
        have HO5 := Lib.hid (HO.out.below hB5)
        have HB5 := Lib.hid (HB.out.trans (hB5.mono HB.out.size))
        have HQ5 := Lib.hid hq5
        have HQ50 := Lib.hid hq50
        clear hO5 hB5 hq5 hq50 c0 c1
        go_wp2_with (at_builtin; refine wpList_append_any rfl _ _ 62 rfl w.heap.size 5 (.int .u8 0) 1 1 Try.underlying62 u8Info rfl (by decide) _ _ _ rfl HO5.out q5 z2.length c5 (byteVals z2) rfl (by rw [byteVals_len]; omega) HQ50.out HQ5.out (by intro u hu; simp [byteVals] at hu; obtain ⟨_, _, rfl⟩ := hu; rfl) (by unfold maxLen; omega) (by omega) HB5.out.size ?_; intro u1 x1 ha1 hg1; have HA1 := Lib.hid ha1; have HB6 := Lib.hid (HB5.out.grown hg1 HB5.out.size (fun j hj => (HO5.out.lt j hj).1)); clear ha1 hg1)
        (with_reducible refine (Q3.out _).mono ?_)
        rintro e w7 ⟨v7, rfl, hO7, hB7⟩
        obtain ⟨q7, c7, rfl, _, hq70, _, hq7⟩ := hO7.sl
        have hO7' := HA1.out.below hB7
        rw [← byteVals_append, ← List.length_append] at hO7'
        have HO7 := Lib.hid hO7'
        have HB7 := Lib.hid (HB6.out.trans (hB7.mono HB6.out.size))
        have HQ7 := Lib.hid hq7
        have HQ70 := Lib.hid hq70
        clear hO7 hB7 hq7 hq70 hO7' HO5 HB5 HA1 HB6
        go_wp2_with (at_builtin; refine wpList_append_any rfl _ _ 62 rfl w.heap.size 5 (.int .u8 0) 1 1 Try.underlying62 u8Info rfl (by decide) _ _ _ rfl HO7.out q7 z3.length c7 (byteVals z3) rfl (by rw [byteVals_len]; omega) HQ70.out HQ7.out (by intro u hu; simp [byteVals] at hu; obtain ⟨_, _, rfl⟩ := hu; rfl) (by unfold maxLen; omega) (by omega) HB7.out.size ?_; intro u2 x2 ha2 hg2; have HA2 := Lib.hid ha2; have HB8 := Lib.hid (HB7.out.grown hg2 HB7.out.size (fun j hj => (HO7.out.lt j hj).1)); clear ha2 hg2)
        refine ⟨⟨0 + 1, HKN.out, by go_num, ?_, HB8.out⟩, ?_⟩
        · rw [HPN2.out, byteVals_append, List.length_append]
          exact HA2.out
        · have := HKM.out
          simp [intOf]
          omega
      · have i1 : (0 : Int) ≤ j := by omega
        have i2 : (j : Int) + 1 < n := by omega
        have e1 : wrap64 (tick - pt) = d1 := E1.out.symm
        have e2 : wrap64 (d1 - 1) = d2 := H3.out.1
        have e3 : wrap64 (val - pv) = d3 := H3.out.2
        clear H0 H3 E1
        go_wp2_with fail
        (with_reducible refine (Q2.out _).mono ?_)
        rintro e w5 ⟨v5, rfl, hO5, hB5⟩
        obtain ⟨q5, c5, rfl, _, hq50, _, hq5⟩ := hO5.sl
        have HO5 := Lib.hid (HO.out.below hB5)
        have HB5 := Lib.hid (HB.out.trans (hB5.mono HB.out.size))
        have HQ5 := Lib.hid hq5
        have HQ50 := Lib.hid hq50
        clear hO5 hB5 hq5 hq50 c0 c1 c2 c3
        go_wp2_with (at_builtin; refine wpList_append_any rfl _ _ 62 rfl w.heap.size 5 (.int .u8 0) 1 1 Try.underlying62 u8Info rfl (by decide) _ _ _ rfl HO5.out q5 z2.length c5 (byteVals z2) rfl (by rw [byteVals_len]; omega) HQ50.out HQ5.out (by intro u hu; simp [byteVals] at hu; obtain ⟨_, _, rfl⟩ := hu; rfl) (by unfold maxLen; omega) (by omega) HB5.out.size ?_; intro u1 x1 ha1 hg1; have HA1 := Lib.hid ha1; have HB6 := Lib.hid (HB5.out.grown hg1 HB5.out.size (fun j hj => (HO5.out.lt j hj).1)); clear ha1 hg1)
        (with_reducible refine (Q3.out _).mono ?_)
        rintro e w7 ⟨v7, rfl, hO7, hB7⟩
        obtain ⟨q7, c7, rfl, _, hq70, _, hq7⟩ := hO7.sl
        have hO7' := HA1.out.below hB7
        rw [← byteVals_append, ← List.length_append] at hO7'
        have HO7 := Lib.hid hO7'
        have HB7 := Lib.hid (HB6.out.trans (hB7.mono HB6.out.size))
        have HQ7 := Lib.hid hq7
        have HQ70 := Lib.hid hq70
        clear hO7 hB7 hq7 hq70 hO7' HO5 HB5 HA1 HB6
        go_wp2_with (at_builtin; refine wpList_append_any rfl _ _ 62 rfl w.heap.size 5 (.int .u8 0) 1 1 Try.underlying62 u8Info rfl (by decide) _ _ _ rfl HO7.out q7 z3.length c7 (byteVals z3) rfl (by rw [byteVals_len]; omega) HQ70.out HQ7.out (by intro u hu; simp [byteVals] at hu; obtain ⟨_, _, rfl⟩ := hu; rfl) (by unfold maxLen; omega) (by omega) HB7.out.size ?_; intro u2 x2 ha2 hg2; have HA2 := Lib.hid ha2; have HB8 := Lib.hid (HB7.out.grown hg2 HB7.out.size (fun j hj => (HO7.out.lt j hj).1)); clear ha2 hg2)
        refine ⟨⟨j + 1 + 1, HKN.out, by go_num, ?_, HB8.out⟩, ?_⟩
        · rw [HPN2.out, byteVals_append, List.length_append]
          exact HA2.out
        · have := HKM.out
          simp [intOf]
          omega
    · obtain rfl : k = n := by omega
      clear hO hB
      go_wp2
      go_ret
      exact ⟨_, rfl, HO.out, HB.out⟩
end Go.Proofs.Ytapgcbjlgekpeaa
