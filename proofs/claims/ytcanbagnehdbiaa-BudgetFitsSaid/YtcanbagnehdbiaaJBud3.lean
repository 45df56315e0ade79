/- Layer 51: what each one has: budget.Share, walked. -/
import Derived.Test.YtcanbagnehdbiaaJBud2
namespace Go.Proofs.Ytcanbagnehdbiaa
open Go.ChangeShapes Go.WideShapes Go.ChangeAt Go.RowKit

theorem not_in3 {b1 b2 b3 k : Nat} {o1 o2 o3 : Obj} (h1 : k ≠ b1) (h2 : k ≠ b2) (h3 : k ≠ b3) : ∀ (i : Nat) (o : Obj), [(b1, o1), (b2, o2), (b3, o3)][i]? ≠ some (k, o) := by
  intro i o hi
  match i, hi with
  | 0, hi => simp at hi; omega
  | 1, hi => simp at hi; omega
  | 2, hi => simp at hi; omega
  | i + 3, hi => simp at hi

set_option maxHeartbeats 1000000 in
set_option maxRecDepth 100000 in
theorem budget_share_bad (total : Int) (q : Option Addr) (c : Nat) (l : List Samp) (hl : ∀ a ∈ l, a.In) (hb : l.length ≤ 9223372036854775807) (hc : Bud.check total l ≠ 0) (w : World) (hs : Samps w q l) :
    Calls Try.prog 21 #[.int .i64 total, .slice q l.length c] w fun e w' => e = .returned (.tuple #[.slice none 0 0, .int .i64 (Bud.check total l)]) ∧ Below w.heap.size w w' := by
  have F := Lib.hid (fun W : World => fun h : Samps W q l => budget_check total q c l hl hb W h)
  obtain ⟨r, er⟩ : ∃ r, r = Bud.check total l := ⟨_, rfl⟩
  rw [← er] at F hc ⊢
  obtain ⟨n, en⟩ : ∃ n, n = l.length := ⟨_, rfl⟩
  rw [← en] at F hb ⊢
  have HS := Lib.hid hs
  have hrb : (r == 0) = false := beq_eq_false_iff_ne.2 hc
  have M0 : Hid (Mem w (w.alloc (.cells #[.slice q n c] 41)) [(w.heap.size, .cells #[.slice q n c] 41)]) := (Mem.start w).alloc _
  clear er en hl hs
  go_enter Try.func21, Try.ntmps21
  go_wp2_with fail
  (with_reducible refine (F.out _ (HS.out.below M0.out.below)).mono ?_)
  rintro e w1 ⟨rfl, hb1⟩
  have M1 := Lib.hid (M0.out.call hb1)
  clear hb1
  go_wp2
  exact bodyPost_ret (results_tmp2 rfl _ _ _) rfl ⟨rfl, M1.out.below⟩

set_option maxHeartbeats 4000000 in
set_option maxRecDepth 100000 in
theorem budget_share (total : Int) (q : Option Addr) (c : Nat) (l : List Samp) (hl : ∀ a ∈ l, a.In) (hc : Bud.check total l = 0) (w : World) (hs : Samps w q l) :
    Calls Try.prog 21 #[.int .i64 total, .slice q l.length c] w fun e w' => ∃ u, e = .returned (.tuple #[u, .int .i64 0]) ∧ Owns w' w.heap.size 1 u l.length (intVals (Bud.share total l)) ∧ Below w.heap.size w w' := by
  obtain ⟨t1, t2, hn64, _, _⟩ := Bud.check_ok hc
  obtain ⟨hsum, hleft⟩ := Bud.sums hc
  have hokm := Bud.ok_mins hc hl
  have f := fun W : World => fun h : Samps W q l => budget_check total q c l hl (by omega) W h
  rw [hc] at f
  have HSH : Hid (Bud.share total l = Bud.run l (Bud.left total l l.length).toNat (Bud.mins l)) := rfl
  have HLE : Hid (∀ k, k ≤ l.length → 0 ≤ Bud.left total l k ∧ Bud.left total l k ≤ 4096) := fun k hk => by have := hsum k hk; unfold Bud.left; omega
  have HL0 : Hid (Bud.left total l 0 = total) := by show total - 0 = total; omega
  have HLN := Lib.hid hleft
  have HMN : Hid (∀ k, k < l.length → intVals ((Bud.mins l).take (k + 1)) = intVals ((Bud.mins l).take k) ++ [.int .i64 (l[k]?.getD default).tick]) := fun k hk => by
    rw [List.take_succ_eq_append_getElem (by rw [Bud.mins_len]; exact hk), intVals_append]
    have e : (Bud.mins l)[k]'(by rw [Bud.mins_len]; exact hk) = (l[k]?.getD default).tick := by unfold Bud.mins; rw [List.getElem_map, List.getElem?_eq_getElem hk]; rfl
    rw [e]; rfl
  have HME : Hid ((Bud.mins l).take l.length = Bud.mins l) := List.take_of_length_le (by rw [Bud.mins_len]; exact Nat.le_refl _)
  obtain ⟨lf, elf⟩ : ∃ f, f = Bud.left total l := ⟨_, rfl⟩
  rw [← elf] at HSH HLE HL0 HLN
  obtain ⟨R, eR⟩ : ∃ R, R = Bud.share total l := ⟨_, rfl⟩
  rw [← eR] at HSH ⊢
  obtain ⟨mv, emv⟩ : ∃ g, g = fun k => intVals ((Bud.mins l).take k) := ⟨_, rfl⟩
  have HMN2 : Hid (∀ k, k < l.length → mv (k + 1) = mv k ++ [.int .i64 (l[k]?.getD default).tick]) := by rw [emv]; exact HMN.out
  have HM0 : Hid (mv 0 = []) := by rw [emv]; rfl
  have HME2 : Hid (mv l.length = intVals (Bud.mins l)) := by rw [emv]; show intVals ((Bud.mins l).take l.length) = _; rw [HME.out]
  obtain ⟨n, en⟩ : ∃ n, n = l.length := ⟨_, rfl⟩
  have EN := Lib.hid en
  rw [← en] at hn64 HSH HME2 ⊢
  simp only [← en] at f HLE
  have F := Lib.hid f
  have HS := Lib.hid hs
  have HOKM := Lib.hid hokm
  have M0 : Hid (Mem w (w.alloc (.cells #[.slice q n c] 41)) [(w.heap.size, .cells #[.slice q n c] 41)]) := (Mem.start w).alloc _
  clear f hs hokm hsum hleft en elf eR emv HMN HME hl hc
  go_enter Try.func21, Try.ntmps21
  go_wp2_with fail
  (with_reducible refine (F.out _ (HS.out.below M0.out.below)).mono ?_)
  rintro e w1 ⟨rfl, hb1⟩
  have M1 := Lib.hid ((M0.out.call hb1).alloc (.cells #[.slice none 0 0] 37))
  obtain ⟨bh, hbh⟩ : ∃ b, w1.heap.size = b := ⟨_, rfl⟩
  rw [hbh] at M1
  have k0 := M1.out.cell 0 0 rfl rfl
  have hbl : w.heap.size < bh := hbh ▸ (M0.out.call hb1).lt (i := 0) rfl
  obtain ⟨B, hB⟩ : ∃ B, B = bh + 1 := ⟨_, rfl⟩
  have HB := Lib.hid hB
  have W1 : Hid ((w1.alloc (.cells #[.slice none 0 0] 37)).heap.size = B) := by show _ = _; rw [World.size_alloc, hbh, hB]
  have HBL := Lib.hid hbl
  clear hb1 F M0 hB hbl
  go_wp2
  try rw [hbh]
  try clear hbh
  go_loopw [0, 19] (fun t i wr => ∃ (k : Nat) (p : Option Addr) (d : Nat), k ≤ n ∧ i = .int .i64 (k : Nat) ∧ t = .int .i64 (lf k) ∧ Mem w wr [(w.heap.size, .cells #[.slice q n c] 41 (0, 0)), (bh, .cells #[.slice p k d] 37 (0, 0))] ∧ Owns wr B 1 (.slice p k d) k (mv k)) (fun _ i _ => n - (intOf i).toNat)
  case atStart => exact ⟨0, none, 0, by omega, rfl, by rw [HL0.out], M1.out, by rw [HM0.out]; exact owns_nil _ _ _⟩
  case round =>
    obtain ⟨k, p, d, hk, rfl, rfl, hM, hO⟩ := hrel
    by_cases hlt : k < n
    · have hkl : k < l.length := by have := EN.out; omega
      obtain ⟨bq, off, rfl, hbw, _⟩ := HS.out.cells k hkl
      obtain ⟨c0, c1⟩ := HS.out.bc k hkl wr hM.below
      have hln := HLN.out k hkl
      have hle := HLE.out k hk
      have hle2 := HLE.out (k + 1) (by omega)
      have hmn := HMN2.out k hkl
      obtain ⟨⟨a0, a1⟩, ex⟩ : ∃ x, x = l[k]?.getD default := ⟨_, rfl⟩
      rw [← ex] at c0 c1 hln hmn
      simp only at c0 c1 hln hmn
      obtain ⟨lk, elk⟩ : ∃ x, x = lf k := ⟨_, rfl⟩
      rw [← elk] at hln hle ⊢
      have hsub : lk - a0 = lf (k + 1) := hln.symm
      obtain ⟨lk2, elk2⟩ : ∃ x, x = lf (k + 1) := ⟨_, rfl⟩
      rw [← elk2] at hsub hle2
      have ELK2 := Lib.hid elk2
      obtain ⟨xs, exs⟩ : ∃ x, x = mv k := ⟨_, rfl⟩
      rw [← exs] at hmn hO
      have HMN3 := Lib.hid hmn
      have hXl := hO.lt
      have HXL := Lib.hid hXl
      have M2 := Lib.hid (hM.alloc (.cells #[.int .i64 a0, .int .i64 a1] 116))
      have O2 := Lib.hid (hO.below (below1 wr (.cells #[.int .i64 a0, .int .i64 a1] 116)))
      have hbhl : bh < wr.heap.size := hM.lt (i := 1) rfl
      have z0 := M2.out.cell 2 0 rfl rfl
      have z1 := M2.out.cell 1 0 rfl rfl
      have hBW : Below B (wr.alloc (.cells #[.int .i64 a0, .int .i64 a1] 116)) (wr.alloc (.cells #[.int .i64 a0, .int .i64 a1] 116)) := Below.refl _ _
      have hBX : B ≤ (wr.alloc (.cells #[.int .i64 a0, .int .i64 a1] 116)).heap.size := by rw [World.size_alloc]; have := HB.out; omega
      have hkn : (k : Int) < n := by omega
      have HXK : Hid (∀ k', (Value.slice p k d).ownBlock = some k' → w.heap.size ≤ k' ∧ ∀ (i : Nat) (o : Obj), [(w.heap.size, Obj.cells #[.slice (some ⟨bq, off, none⟩) n c] 41 (0, 0)), (bh, .cells #[.slice p k d] 37 (0, 0)), (wr.heap.size, .cells #[.int .i64 a0, .int .i64 a1] 116 (0, 0))][i]? ≠ some (k', o)) := fun k' e => by
        have := HXL.out k' e
        have := HB.out
        have := HBL.out
        exact ⟨by omega, not_in3 (by omega) (by omega) (by omega)⟩
      clear hM hO ex elk elk2 exs hmn hln hXl hkl
      go_wp2_with (at_builtin; refine wpList_append_new rfl _ _ 37 rfl _ _ 2 rfl _ 2 (.int .i64 0) 1 8 Try.underlying37 i64Info rfl (by decide) _ _ _ rfl (O2.out) (by first | rfl | (rw [World.size_alloc]; rfl)) rfl (by first | (simp [Value.oneCell']; done) | (intro u hu; simp at hu; subst hu; rfl)) (by unfold maxLen; omega) (by omega) hBX ?_; intro u1 x1 ha1 hg1 hc1; obtain ⟨p1, d1, rfl, _⟩ := ha1.sl; have hT := Turned.refl.grown (S := fun k' => (Value.slice p k d).ownBlock = some k') hg1 (fun k' hk _ => hk); have hM3 : Mem w x1 [(w.heap.size, .cells #[.slice (some ⟨bq, off, none⟩) n c] 41 (0, 0)), (bh, .cells #[.slice p k d] 37 (0, 0)), (wr.heap.size, .cells #[.int .i64 a0, .int .i64 a1] 116 (0, 0))] := M2.out.turnedB hT HXK.out; have kb := hM3.cell 1 0 rfl rfl; have fb := hM3.free 1 0 rfl; have M4 := Lib.hid (hM3.setCell 1 0 (.slice p1 (k + 1) d1) rfl); have z4 := M4.out.cell 2 0 rfl rfl; have O4 := Lib.hid (ha1.setOther (b := bh) (j := 0) (.slice p1 (k + 1) d1) (fun e => by have := (ha1.lt _ e).1; have := HB.out; omega)); clear ha1 hg1 hc1 hT hM3)
      exact ⟨⟨k + 1, p1, d1, by omega, by go_num, by rw [← ELK2.out], M4.out.init, by rw [HMN3.out]; exact O4.out⟩, by simp [intOf]; omega⟩
    · obtain rfl : k = n := by omega
      rw [HME2.out] at hO
      have hle := HLE.out k (Nat.le_refl _)
      obtain ⟨lv, elv⟩ : ∃ v : Nat, lf k = (v : Int) := ⟨(lf k).toNat, by omega⟩
      have HR : Hid (Bud.run l lv (Bud.mins l) = R) := by show _ = _; rw [HSH.out, elv, Int.toNat_natCast]
      rw [elv]
      rw [elv] at hle
      have M5 := Lib.hid hM
      have O5 := Lib.hid hO
      have hlv : lv ≤ 4096 := by omega
      clear hM hO hle elv HLE HLN HSH HMN2 HM0 HME2 HL0 M1
      go_wp2
      go_loopw [0] (fun t wr => ∃ (v : Nat) (h : List Int), v ≤ 4096 ∧ t = .int .i64 (v : Nat) ∧ Bud.Ok l h ∧ Bud.run l v h = R ∧ Mem w wr [(w.heap.size, .cells #[.slice q k c] 41 (0, 0)), (bh, .cells #[.slice p k d] 37 (0, 0))] ∧ Owns wr B 1 (.slice p k d) k (intVals h)) (fun t _ => (intOf t).toNat)
      case atStart => exact ⟨lv, Bud.mins l, hlv, rfl, HOKM.out, HR.out, M5.out, O5.out⟩
      case round =>
        obtain ⟨v, h, hv, rfl, hok, hrun, hM, hO⟩ := hrel
        cases v with
        | zero =>
          have hr : h = R := hrun
          subst hr
          have k1 := hM.cell 1 0 rfl rfl
          have BF := Lib.hid hM.below
          have OF := Lib.hid (hO.mono (show w.heap.size ≤ B by have := HB.out; have := HBL.out; omega))
          clear hM hO hok hrun
          go_wp2
          exact bodyPost_ret (results_tmp2 rfl _ _ _) rfl ⟨_, rfl, OF.out, BF.out⟩
        | succ v =>
          have hun : Bud.run l (v + 1) h = if Bud.who l h < 0 then h else Bud.run l v (Bud.give h (Bud.who l h).toNat) := rfl
          rw [hun] at hrun
          have hv1 : (0 : Int) < (v : Int) + 1 := by omega
          rcases Bud.who_spec (l := l) (h := h) with ⟨hw, _⟩ | ⟨j, hj, hw, hlack, _⟩
          · rw [if_pos (by omega)] at hrun
            subst hrun
            have P := Lib.hid (share_give_no hok EN.out.symm (by omega) hM hO HS.out (by omega))
            have M6 := Lib.hid hM
            have O6 := Lib.hid hO
            clear hM hO hok hun hw
            go_wp2_with fail
            (with_reducible refine P.out.mono ?_)
            rintro e w5 ⟨rfl, hb5⟩
            have k1 := (M6.out.call hb5).cell 1 0 rfl rfl
            have BF := Lib.hid (M6.out.call hb5).below
            have OF := Lib.hid ((O6.out.below hb5).mono (show w.heap.size ≤ B by have := HB.out; have := HBL.out; omega))
            clear hb5 P M6 O6
            go_wp2
            exact bodyPost_ret (results_tmp2 rfl _ _ _) rfl ⟨_, rfl, OF.out, BF.out⟩
          · rw [if_neg (by omega), hw, Int.toNat_natCast] at hrun
            have hok2 := Bud.ok_give hok hj hlack
            have P := Lib.hid (share_give_yes hok EN.out.symm (by omega) hM hO HS.out (by have := HB.out; have := HBL.out; omega) (by have := HB.out; have := HBL.out; omega) (by have := HB.out; omega) (j := j) (by have := EN.out; omega) hw hlack)
            obtain ⟨h2, eh2⟩ : ∃ x, x = Bud.give h j := ⟨_, rfl⟩
            rw [← eh2] at P hrun hok2
            have HRUN := Lib.hid hrun
            have HOK2 := Lib.hid hok2
            clear hM hO hok hun hw hlack eh2 hrun hok2 hj
            go_wp2_with fail
            (with_reducible refine P.out.mono ?_)
            rintro e w5 ⟨rfl, hM5, hO5⟩
            have M7 := Lib.hid hM5
            have O7 := Lib.hid hO5
            clear hM5 hO5 P
            go_wp2
            exact ⟨⟨v, h2, by omega, by go_num, HOK2.out, HRUN.out, M7.out, O7.out⟩, by simp [intOf]⟩
end Go.Proofs.Ytcanbagnehdbiaa
