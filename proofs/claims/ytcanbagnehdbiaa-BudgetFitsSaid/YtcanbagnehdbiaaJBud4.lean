/- Layer 51: what each one has: the reference's Share, walked. -/
import Derived.Test.YtcanbagnehdbiaaJBud3
namespace Go.Proofs.Ytcanbagnehdbiaa
open Go.ChangeShapes Go.WideShapes Go.ChangeAt Go.RowKit

set_option maxHeartbeats 4000000 in
set_option maxRecDepth 100000 in
theorem ref51_share (total : Int) (q : Option Addr) (c : Nat) (l : List Samp) (hl : ∀ a ∈ l, a.In) (hc : Bud.check total l = 0) (w : World) (hs : Samps w q l) :
    Calls Try.prog 26 #[.int .i64 total, .slice q l.length c] w fun e w' => ∃ u, e = .returned u ∧ Owns w' w.heap.size 1 u l.length (intVals (Bud.share total l)) ∧ Below w.heap.size w w' := by
  obtain ⟨t1, t2, hn64, _, _⟩ := Bud.check_ok hc
  obtain ⟨hsum, hleft⟩ := Bud.sums hc
  have hokm := Bud.ok_mins hc hl
  have HSH : Hid (Bud.share total l = Bud.run l (Bud.left total l l.length).toNat (Bud.mins l)) := rfl
  have HLE : Hid (∀ k, k ≤ l.length → 0 ≤ Bud.left total l k ∧ Bud.left total l k ≤ 4096) := fun k hk => by have := hsum k hk; unfold Bud.left; omega
  have HL0 : Hid (Bud.left total l 0 = total) := by show total - 0 = total; omega
  have HLN := Lib.hid hleft
  have HMN : Hid (∀ k, k < l.length → intVals ((Bud.mins l).take (k + 1)) = intVals ((Bud.mins l).take k) ++ [.int .i64 (l[k]?.getD default).tick]) := fun k hk => by
    rw [List.take_succ_eq_append_getElem (by rw [Bud.mins_len]; exact hk), intVals_append]
    have e : (Bud.mins l)[k]'(by rw [Bud.mins_len]; exact hk) = (l[k]?.getD default).tick := by unfold Bud.mins; rw [List.getElem_map, List.getElem?_eq_getElem hk]; rfl
    rw [e]; rfl
  have HME : Hid ((Bud.mins l).take l.length = Bud.mins l) := List.take_of_length_le (by rw [Bud.mins_len]; exact Nat.le_refl _)
  obtain ⟨lf, elf⟩ : ∃ f, f = Bud.left total l := ⟨_, rfl⟩
  rw [← elf] at HSH HLE HL0 HLN
  obtain ⟨R, eR⟩ : ∃ R, R = Bud.share total l := ⟨_, rfl⟩
  rw [← eR] at HSH ⊢
  obtain ⟨mv, emv⟩ : ∃ g, g = fun k => intVals ((Bud.mins l).take k) := ⟨_, rfl⟩
  have HMN2 : Hid (∀ k, k < l.length → mv (k + 1) = mv k ++ [.int .i64 (l[k]?.getD default).tick]) := by rw [emv]; exact HMN.out
  have HM0 : Hid (mv 0 = []) := by rw [emv]; rfl
  have HME2 : Hid (mv l.length = intVals (Bud.mins l)) := by rw [emv]; show intVals ((Bud.mins l).take l.length) = _; rw [HME.out]
  obtain ⟨n, en⟩ : ∃ n, n = l.length := ⟨_, rfl⟩
  have EN := Lib.hid en
  rw [← en] at hn64 HSH HME2 ⊢
  simp only [← en] at HLE
  have HS := Lib.hid hs
  have HOKM := Lib.hid hokm
  clear hs hokm hsum hleft en elf eR emv HMN HME hl hc
  go_enter Try.func26, Try.ntmps26
  go_wp2
  go_loopw [5, 6, 7] (fun o t i wr => ∃ (k : Nat), k ≤ n ∧ i = .int .i64 (k : Nat) ∧ t = .int .i64 (lf k) ∧ Owns wr w.heap.size 1 o k (mv k) ∧ Below w.heap.size w wr) (fun _ _ i _ => n - (intOf i).toNat)
  case atStart => exact ⟨0, by omega, rfl, by rw [HL0.out], by rw [HM0.out]; exact owns_nil _ _ _, Below.refl _ _⟩
  case round =>
    obtain ⟨k, hk, rfl, rfl, hO, hB⟩ := hrel
    by_cases hlt : k < n
    · have hkl : k < l.length := by have := EN.out; omega
      obtain ⟨bq, off, rfl, hbw, _⟩ := HS.out.cells k hkl
      have hcc := HS.out.bc k hkl
      obtain ⟨c0, c1⟩ := hcc wr hB
      have hln := HLN.out k hkl
      have hle := HLE.out k hk
      have hle2 := HLE.out (k + 1) (by omega)
      have hmn := HMN2.out k hkl
      obtain ⟨⟨a0, a1⟩, ex⟩ : ∃ x, x = l[k]?.getD default := ⟨_, rfl⟩
      rw [← ex] at c0 c1 hln hmn
      simp only [← ex] at hcc
      simp only at c0 c1 hln hmn
      have HCC : Hid (∀ W : World, Below w.heap.size w W → W.cell? ⟨bq, off + k * 2, none⟩ = some (.int .i64 a0)) := fun W h => (hcc W h).1
      obtain ⟨lk, elk⟩ : ∃ x, x = lf k := ⟨_, rfl⟩
      rw [← elk] at hln hle ⊢
      have hsub : lk - a0 = lf (k + 1) := hln.symm
      obtain ⟨lk2, elk2⟩ : ∃ x, x = lf (k + 1) := ⟨_, rfl⟩
      rw [← elk2] at hsub hle2
      have ELK2 := Lib.hid elk2
      obtain ⟨xs, exs⟩ : ∃ x, x = mv k := ⟨_, rfl⟩
      rw [← exs] at hmn hO
      have HMN3 := Lib.hid hmn
      have HO := Lib.hid hO
      have HB := Lib.hid hB
      have hBW := hB
      have hkn : (k : Int) < n := by omega
      have hk0 : (0 : Int) ≤ k := by omega
      clear hO hB ex elk elk2 exs hmn hln hkl hcc
      go_wp2_with ((at_builtin; refine wpList_append_new rfl _ _ 37 rfl _ _ 2 rfl _ 2 (.int .i64 0) 1 8 Try.underlying37 i64Info rfl (by decide) _ _ _ rfl (HO.out) (by first | rfl | (rw [World.size_alloc]; rfl)) rfl (by first | (simp [Value.oneCell']; done) | (intro u hu; simp at hu; subst hu; rfl)) (by unfold maxLen; omega) (by omega) (Below.size (by assumption)) ?_; intro u1 x1 ha1 hg1 hc1); have z0 := HCC.out x1 (HB.out.trans hc1))
      exact ⟨⟨k + 1, by omega, by go_num, by rw [← ELK2.out], by rw [HMN3.out]; exact ha1, HB.out.trans hc1⟩, by simp [intOf]; omega⟩
    · obtain rfl : k = n := by omega
      rw [HME2.out] at hO
      have hle := HLE.out k (Nat.le_refl _)
      obtain ⟨lv, elv⟩ : ∃ v : Nat, lf k = (v : Int) := ⟨(lf k).toNat, by omega⟩
      have HR : Hid (Bud.run l lv (Bud.mins l) = R) := by show _ = _; rw [HSH.out, elv, Int.toNat_natCast]
      rw [elv]
      rw [elv] at hle
      obtain ⟨p, d, rfl, hkd, _⟩ := hO.sl
      have B5 := Lib.hid hB
      have O5 := Lib.hid hO
      have hlv : lv ≤ 4096 := by omega
      clear hO hB hle elv HLE HLN HSH HMN2 HM0 HME2 HL0 hkd
      go_wp2
      go_loopw [6] (fun t wr => ∃ (v : Nat) (h : List Int), v ≤ 4096 ∧ t = .int .i64 (v : Nat) ∧ Bud.Ok l h ∧ Bud.run l v h = R ∧ Owns wr w.heap.size 1 (.slice p k d) k (intVals h) ∧ Below w.heap.size w wr) (fun t _ => (intOf t).toNat)
      case atStart => exact ⟨lv, Bud.mins l, hlv, rfl, HOKM.out, HR.out, O5.out, B5.out⟩
      case round =>
        obtain ⟨v, h, hv, rfl, hok, hrun, hO, hB⟩ := hrel
        by_cases hv0 : v = 0
        · subst hv0
          have hr : h = R := hrun
          subst hr
          have BF := Lib.hid hB
          have OF := Lib.hid hO
          clear hO hB hok hrun
          go_wp2
          go_ret
          exact ⟨_, rfl, OF.out, BF.out⟩
        · obtain ⟨vm, evm⟩ : ∃ vm, v = vm + 1 := ⟨v - 1, by omega⟩
          have hun : Bud.run l (vm + 1) h = if Bud.who l h < 0 then h else Bud.run l vm (Bud.give h (Bud.who l h).toNat) := rfl
          rw [evm, hun] at hrun
          have hv1 : (0 : Int) < (v : Int) := by omega
          have hv2 : 0 < v := by omega
          have hv3 : decide (0 < v) = true := decide_eq_true hv2
          have EVM := Lib.hid evm
          clear evm hv0
          have HOK := Lib.hid hok
          have HSP := Lib.hid (Bud.scan_spec (Bud.wt l) (Bud.hv h))
          have HZ : Hid (Bud.scan (Bud.wt l) (Bud.hv h) 0 = (-1, 0)) := rfl
          have HN := Lib.hid (fun j => show Bud.scan (Bud.wt l) (Bud.hv h) (j + 1) = if (Bud.scan (Bud.wt l) (Bud.hv h) j).2 < Bud.wt l j - Bud.hv h j then ((j : Int), Bud.wt l j - Bud.hv h j) else Bud.scan (Bud.wt l) (Bud.hv h) j from rfl)
          have hwho : (Bud.scan (Bud.wt l) (Bud.hv h) k).1 = Bud.who l h := by unfold Bud.who; rw [← EN.out]
          obtain ⟨f, ef⟩ : ∃ f, f = Bud.scan (Bud.wt l) (Bud.hv h) := ⟨_, rfl⟩
          rw [← ef] at HSP HZ HN hwho
          have HWHO := Lib.hid hwho
          have HRUN := Lib.hid hrun
          have OO := Lib.hid hO
          have BB := Lib.hid hB
          clear hun hrun hok hwho ef hO hB
          go_wp2
          go_loopw [8, 9] (fun b i wq => ∃ (j : Nat), j ≤ k ∧ i = .int .i64 (j : Nat) ∧ b = .int .i64 (f j).1 ∧ Owns wq w.heap.size 1 (.slice p k d) k (intVals h) ∧ Below w.heap.size w wq) (fun _ i _ => k - (intOf i).toNat)
          case atStart => exact ⟨0, by omega, rfl, by rw [HZ.out], OO.out, BB.out⟩
          case round =>
            obtain ⟨j, hj, rfl, rfl, hO, hB⟩ := hrel
            by_cases hjk : j < k
            · have hjl : j < l.length := by have := EN.out; omega
              obtain ⟨bq, off, rfl, hbw, _⟩ := HS.out.cells j hjl
              have hcells := fun (i : Nat) (hi : i < l.length) => (HS.out.bc i hi wr hB).2
              have ho2 := hO
              rw [show k = h.length by rw [HOK.out.1, ← EN.out]] at ho2
              obtain ⟨g, cap', e, _, _, _, hcell, _⟩ := hO.some_of2 (by omega)
              simp only [Value.slice.injEq] at e
              obtain ⟨rfl, _, rfl⟩ := e
              have hhc : ∀ i, i < k → wr.cell? ⟨g, i, none⟩ = some (.int .i64 (Bud.hv h i)) := fun i hi => hcell i _ (by
                unfold intVals Bud.hv
                rw [List.getElem?_map, List.getElem?_eq_getElem (by rw [HOK.out.1, ← EN.out]; exact hi)]
                rfl)
              have c1 := hcells j hjl
              have c2 := hhc j hjk
              have okj := HOK.out.2 j hjl
              have hn := HN.out j
              have hsp := HSP.out j
              have HO := Lib.hid hO
              have HB := Lib.hid hB
              have i1 : (0 : Int) ≤ j := by omega
              have i2 : (j : Int) < k := by omega
              clear ho2 hcell hO hB
              rcases hsp with ⟨s1, s2, _⟩ | ⟨m, hm, s1, s2, s3, _⟩
              · rw [s2] at hn
                rw [s1]
                unfold Bud.wt at hn okj
                obtain ⟨y, ey⟩ : ∃ y, y = (l[j]?.getD default).val := ⟨_, rfl⟩
                rw [← ey] at c1 hn okj
                obtain ⟨z, ez⟩ : ∃ z, z = Bud.hv h j := ⟨_, rfl⟩
                rw [← ez] at c2 hn okj
                obtain ⟨lk, elk⟩ : ∃ lk, y - z = lk := ⟨_, rfl⟩
                rw [elk] at hn
                have hlk0 : 0 ≤ lk ∧ lk ≤ 9223372036854775807 := by omega
                have S1 := Lib.hid s1
                clear ey ez hcells hhc s1 s2 hjl
                by_cases hc0 : 0 < lk
                · have e0 : decide ((0 : Int) < lk) = true := decide_eq_true hc0
                  have HF := Lib.hid (hn.trans (if_pos hc0))
                  clear hn
                  go_wp2_with fail
                  go_quiet (fail)
                  go_wp2_with fail
                  go_quiet (fail)
                  any_goals (first | exact undef | skip)
                  go_wp2
                  exact ⟨⟨j + 1, by omega, by go_num, by rw [HF.out], HO.out.below (below_drewN (Below.refl _ _) _), below_drewN HB.out _⟩, by simp [intOf]; omega⟩
                · have e0 : decide ((0 : Int) < lk) = false := decide_eq_false hc0
                  have HF := Lib.hid (hn.trans (if_neg hc0))
                  clear hn
                  go_wp2_with fail
                  go_quiet (fail)
                  go_wp2_with fail
                  go_quiet (fail)
                  any_goals (first | exact undef | skip)
                  go_wp2
                  first
                    | exact ⟨⟨j + 1, by omega, by go_num, by rw [HF.out, S1.out], HO.out.below (below_drewN (Below.refl _ _) _), below_drewN HB.out _⟩, by simp [intOf]; omega⟩
                    | exact ⟨⟨_, _, _, _, _, _, _, _, _, _, _, _, _, _, _, _, _, _, _, _, _, _, _, _, _, _, _, _, _, _, _, _, _, _, _, _, _, _, _, _, ⟨j + 1, by omega, by go_num, by rw [HF.out, S1.out], HO.out.below (below_drewN (Below.refl _ _) _), below_drewN HB.out _⟩, rfl⟩, by simp [intOf]; omega⟩
              · have hml : m < l.length := by have := EN.out; omega
                have e1 := hcells m hml
                have e2 := hhc m (by omega)
                have okm := HOK.out.2 m hml
                rw [s2] at hn
                rw [s1]
                unfold Bud.wt at hn okj okm s3 s2
                obtain ⟨y, ey⟩ : ∃ y, y = (l[j]?.getD default).val := ⟨_, rfl⟩
                rw [← ey] at c1 hn okj
                obtain ⟨z, ez⟩ : ∃ z, z = Bud.hv h j := ⟨_, rfl⟩
                rw [← ez] at c2 hn okj
                obtain ⟨ym, eym⟩ : ∃ y, y = (l[m]?.getD default).val := ⟨_, rfl⟩
                rw [← eym] at e1 hn okm s3
                obtain ⟨zm, ezm⟩ : ∃ z, z = Bud.hv h m := ⟨_, rfl⟩
                rw [← ezm] at e2 hn okm s3
                obtain ⟨lk, elk⟩ : ∃ lk, y - z = lk := ⟨_, rfl⟩
                obtain ⟨lm, elm⟩ : ∃ lk, ym - zm = lk := ⟨_, rfl⟩
                rw [elk, elm] at hn
                rw [elm] at s3
                have hlk0 : 0 ≤ lk ∧ lk ≤ 9223372036854775807 := by omega
                have hlm0 : 0 < lm ∧ lm ≤ 9223372036854775807 := by omega
                have hwl : IntKind.i64.wrap lm = lm := by
                  rw [IntKind.wrap_i64]; omega
                have S1 := Lib.hid s1
                have m1 : (0 : Int) ≤ m := by omega
                have m2 : (m : Int) < k := by omega
                have m3 : ¬ (m : Int) < 0 := by omega
                clear ey ez eym ezm hcells hhc s1 s2 hjl hml
                by_cases hc1 : lm < lk
                · have HF := Lib.hid (hn.trans (if_pos hc1))
                  have hc0 : 0 < lk := by omega
                  have e0 : decide ((0 : Int) < lk) = true := decide_eq_true hc0
                  have e1 : decide (lm < lk) = true := decide_eq_true hc1
                  clear hn
                  go_wp2_with fail
                  go_quiet (fail)
                  go_wp2_with fail
                  go_quiet (fail)
                  any_goals (first | exact undef | skip)
                  go_wp2
                  exact ⟨⟨j + 1, by omega, by go_num, by rw [HF.out], HO.out.below (below_drewN (Below.refl _ _) _), below_drewN HB.out _⟩, by simp [intOf]; omega⟩
                · have HF := Lib.hid (hn.trans (if_neg hc1))
                  clear hn
                  have e1 : decide (lm < lk) = false := decide_eq_false hc1
                  by_cases hc0 : 0 < lk
                  · have e0 : decide ((0 : Int) < lk) = true := decide_eq_true hc0
                    go_wp2_with fail
                    go_quiet (fail)
                    go_wp2_with fail
                    go_quiet (fail)
                    any_goals (first | exact undef | skip)
                    go_wp2
                    first
                      | exact ⟨⟨j + 1, by omega, by go_num, by rw [HF.out, S1.out], HO.out.below (below_drewN (Below.refl _ _) _), below_drewN HB.out _⟩, by simp [intOf]; omega⟩
                      | exact ⟨⟨_, _, _, _, _, _, _, _, _, _, _, _, _, _, _, _, _, _, _, _, _, _, _, _, _, _, _, _, _, _, _, _, _, _, _, _, _, _, _, _, ⟨j + 1, by omega, by go_num, by rw [HF.out, S1.out], HO.out.below (below_drewN (Below.refl _ _) _), below_drewN HB.out _⟩, rfl⟩, by simp [intOf]; omega⟩
                  · have e0 : decide ((0 : Int) < lk) = false := decide_eq_false hc0
                    go_wp2_with fail
                    go_quiet (fail)
                    go_wp2_with fail
                    go_quiet (fail)
                    any_goals (first | exact undef | skip)
                    go_wp2
                    first
                      | exact ⟨⟨j + 1, by omega, by go_num, by rw [HF.out, S1.out], HO.out.below (below_drewN (Below.refl _ _) _), below_drewN HB.out _⟩, by simp [intOf]; omega⟩
                      | exact ⟨⟨_, _, _, _, _, _, _, _, _, _, _, _, _, _, _, _, _, _, _, _, _, _, _, _, _, _, _, _, _, _, _, _, _, _, _, _, _, _, _, _, ⟨j + 1, by omega, by go_num, by rw [HF.out, S1.out], HO.out.below (below_drewN (Below.refl _ _) _), below_drewN HB.out _⟩, rfl⟩, by simp [intOf]; omega⟩
            · obtain rfl : j = k := by omega
              have hrun := HRUN.out
              rw [HWHO.out]
              rcases Bud.who_spec (l := l) (h := h) with ⟨hw, _⟩ | ⟨m, hm, hw, hlack, _⟩
              · rw [if_pos (by omega)] at hrun
                subst hrun
                have OF := Lib.hid hO
                have BF := Lib.hid hB
                rw [hw]
                clear hO hB HWHO HN HSP HZ hw OO BB
                go_wp2
                go_ret
                exact ⟨_, rfl, OF.out, BF.out⟩
              · rw [if_neg (by omega), hw, Int.toNat_natCast] at hrun
                have hok2 := Bud.ok_give HOK.out hm hlack
                have hmk : m < j := by have := EN.out; omega
                have okm := HOK.out.2 m hm
                have hset : (intVals h).set m (.int .i64 (Bud.hv h m + 1)) = intVals (Bud.give h m) := by unfold Bud.give intVals; rw [List.map_set]
                obtain ⟨g, cap', e, _, _, _, hcell, hth⟩ := hO.some_of2 (by omega)
                simp only [Value.slice.injEq] at e
                obtain ⟨rfl, _, rfl⟩ := e
                have kc := hcell m (.int .i64 (Bud.hv h m)) (by
                  unfold intVals Bud.hv
                  rw [List.getElem?_map, List.getElem?_eq_getElem (by rw [HOK.out.1, ← EN.out]; exact hmk)]
                  rfl)
                have kf := (hth m (by omega)).2
                have hge := (hO.lt g rfl).1
                obtain ⟨y, ey⟩ : ∃ y, y = Bud.hv h m := ⟨_, rfl⟩
                rw [← ey] at okm hset kc
                have ho2 := hO.put rfl m (.int .i64 (y + 1)) hmk
                rw [hset] at ho2
                have O2 := Lib.hid ho2
                have B2 := Lib.hid (hB.setCell (p := ⟨g, m, none⟩) hge (.int .i64 (y + 1)))
                have hy : 0 ≤ y ∧ y + 1 ≤ 9223372036854775807 := by unfold Bud.wt at okm hlack; omega
                rw [hw]
                have HRUN2 := Lib.hid hrun
                have HOK2 := Lib.hid hok2
                have m1 : (0 : Int) ≤ m := by omega
                have m2 : (m : Int) < j := by omega
                have m3 : ¬ (m : Int) < 0 := by omega
                clear hO hB HWHO HN HSP HZ hw OO BB hcell hth hset ho2 ey hok2 hrun hlack okm hm HRUN
                go_wp2
                exact ⟨⟨vm, Bud.give h m, by have := EVM.out; omega, congrArg (Value.int .i64) (by have := EVM.out; omega), HOK2.out, HRUN2.out, O2.out, B2.out⟩, by have := EVM.out; simp [intOf]; omega⟩
end Go.Proofs.Ytcanbagnehdbiaa
