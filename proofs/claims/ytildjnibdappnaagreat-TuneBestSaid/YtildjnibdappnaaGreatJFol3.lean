/- Layer 16: decisions made sample by sample, by the reference. -/
import Derived.Test.YtildjnibdappnaaGreatJFol2
import Derived.Test.YtildjnibdappnaaGreatJLaws14c
namespace Go.Proofs.YtildjnibdappnaaGreat
open Go.ChangeShapes Go.WideShapes Go.ChangeAt Go.RowKit

theorem Samps.turnedF {S : Nat → Prop} {w w' : World} {p : Option Addr} {l : List Samp} (h : Samps w p l) (ht : Turned S w w') (hp : ∀ ad, p = some ad → ¬ S ad.block) : Samps w' p l := by
  rcases h with h0 | ⟨b', off, e, hb, hc⟩
  · exact .inl h0
  · have h1 := ht.block b' hb (hp _ e)
    refine .inr ⟨b', off, e, Nat.lt_of_lt_of_le hb ht.size, fun j hj => ?_⟩
    rw [← hc j hj]
    exact World.cell?_of_block h1
theorem Advs.turnedF {S : Nat → Prop} {w w' : World} {p : Option Addr} {l : List Adv} (h : Advs w p l) (ht : Turned S w w') (hp : ∀ ad, p = some ad → ¬ S ad.block) : Advs w' p l := by
  rcases h with h0 | ⟨b', off, e, hb, hc⟩
  · exact .inl h0
  · have h1 := ht.block b' hb (hp _ e)
    refine .inr ⟨b', off, e, Nat.lt_of_lt_of_le hb ht.size, fun j hj => ?_⟩
    rw [← hc j hj]
    exact World.cell?_of_block h1

set_option maxHeartbeats 1000000 in
set_option maxRecDepth 100000 in
theorem refFollow_none (p : Pol) (q : Option Addr) (n cap : Nat) (sa ro : Int) (hbad : sa < 1 ∨ 256 < sa ∨ ro < 1 ∨ 64 < ro) (w : World) :
    Calls Tryz.prog 11 #[.agg #[.int .i64 p.mn, .int .i64 p.mx, .int .i64 p.tg, .int .i64 p.tl, .int .i64 p.wi, .int .i64 p.ho], .slice q n cap, .int .i64 sa, .int .i64 ro] w fun e w' => e = .returned (.slice none 0 0) ∧ Below w.heap.size w w' := by
  by_cases h1 : sa < 1
  · have d1 : decide (sa < 1) = true := decide_eq_true h1
    clear hbad
    go_enter Tryz.func11, Tryz.ntmps11
    go_wp2
    go_ret
    exact ⟨rfl, below1 _ _⟩
  have d1 : decide (sa < 1) = false := decide_eq_false h1
  by_cases h2 : 256 < sa
  · have d2 : decide (256 < sa) = true := decide_eq_true h2
    clear hbad
    go_enter Tryz.func11, Tryz.ntmps11
    go_wp2
    go_ret
    exact ⟨rfl, below1 _ _⟩
  have d2 : decide (256 < sa) = false := decide_eq_false h2
  by_cases h3 : ro < 1
  · have d3 : decide (ro < 1) = true := decide_eq_true h3
    clear hbad
    go_enter Tryz.func11, Tryz.ntmps11
    go_wp2
    go_ret
    exact ⟨rfl, below1 _ _⟩
  have d3 : decide (ro < 1) = false := decide_eq_false h3
  have d4 : decide (64 < ro) = true := decide_eq_true (by omega)
  clear hbad
  go_enter Tryz.func11, Tryz.ntmps11
  go_wp2
  go_ret
  exact ⟨rfl, below1 _ _⟩

set_option maxHeartbeats 4000000 in
set_option maxRecDepth 100000 in
theorem refFollow_some (p : Pol) (hp : p.In) (q : Option Addr) (cap : Nat) (l : List Samp) (hl : ∀ a ∈ l, a.In) (hb : l.length ≤ 1000) (sa ro : Nat) (h1 : 1 ≤ sa) (h2 : sa ≤ 256) (h3 : 1 ≤ ro) (h4 : ro ≤ 64) (w : World) (hs : Samps w q l) :
    Calls Tryz.prog 11 #[.agg #[.int .i64 p.mn, .int .i64 p.mx, .int .i64 p.tg, .int .i64 p.tl, .int .i64 p.wi, .int .i64 p.ho], .slice q l.length cap, .int .i64 sa, .int .i64 ro] w fun e w' => ∃ u, e = .returned u ∧ Owns w' w.heap.size 5 u (FS.at p sa ro l l.length).out.length (advVals (FS.at p sa ro l l.length).out) ∧ Below w.heap.size w w' := by
  have HS := Lib.hid hs
  have HGOOD := Lib.hid (FS.good p hp sa ro h1 h3 l hl)
  have HNX := Lib.hid (FS.at_next p sa ro l)
  obtain ⟨n, en⟩ : ∃ n, n = l.length := ⟨_, rfl⟩
  have EN := Lib.hid en
  rw [← en] at hb ⊢
  obtain ⟨W0, hW0⟩ : ∃ W, W = w.alloc (.cells #[.int .i64 p.mn, .int .i64 p.mx, .int .i64 p.tg, .int .i64 p.tl, .int .i64 p.wi, .int .i64 p.ho] 23) := ⟨_, rfl⟩
  have M0 : Hid (Mem w W0 [(w.heap.size, .cells #[.int .i64 p.mn, .int .i64 p.mx, .int .i64 p.tg, .int .i64 p.tl, .int .i64 p.wi, .int .i64 p.ho] 23)]) := by show Mem _ _ _; rw [hW0]; exact (Mem.start w).alloc _
  have hW0s : Hid (W0.heap.size = w.heap.size + 1) := by show _ = _; rw [hW0]; simp
  have d1 : decide ((sa : Int) < 1) = false := decide_eq_false (by omega)
  have d2 : decide ((256 : Int) < sa) = false := decide_eq_false (by omega)
  have d3 : decide ((ro : Int) < 1) = false := decide_eq_false (by omega)
  have d4 : decide ((64 : Int) < ro) = false := decide_eq_false (by omega)
  clear hs en
  go_enter Tryz.func11, Tryz.ntmps11
  go_upto_region 1 with fail
  rw [← hW0]
  clear hW0
  go_wp2
  go_loopw [9, 10, 11, 12] (fun o pa ha i wr => ∃ (k : Nat) (uo : Value) (qs qp : Option Addr) (cs cp : Nat), k ≤ n ∧ i = .int .i64 (k : Nat) ∧ o = uo ∧ pa = .slice qp (FS.at p sa ro l k).past.length cp ∧ ha = .slice qs (FS.at p sa ro l k).sam.length cs ∧ Samps wr qs (FS.at p sa ro l k).sam ∧ Advs wr qp (FS.at p sa ro l k).past ∧ (qp = none → (FS.at p sa ro l k).past.length = 0 ∧ cp = 0) ∧ Owns wr W0.heap.size 5 uo (FS.at p sa ro l k).out.length (advVals (FS.at p sa ro l k).out) ∧ (∀ ad, qs = some ad → uo.ownBlock ≠ some ad.block) ∧ (∀ ad, qp = some ad → uo.ownBlock ≠ some ad.block) ∧ Mem w wr [(w.heap.size, .cells #[.int .i64 p.mn, .int .i64 p.mx, .int .i64 p.tg, .int .i64 p.tl, .int .i64 p.wi, .int .i64 p.ho] 23)]) (fun _ _ _ i _ => n - (intOf i).toNat)
  case atStart => exact ⟨0, _, none, none, 0, 0, by omega, rfl, rfl, rfl, rfl, .inl rfl, .inl rfl, fun _ => ⟨rfl, rfl⟩, owns_nil _ _ _, fun _ h => (by cases h), fun _ h => (by cases h), M0.out⟩
  case round =>
    obtain ⟨k, uo, qs, qp, cs, cp, hk, rfl, rfl, rfl, rfl, hsa, hpa, hqn, hO, hx1, hx2, hM⟩ := hrel
    by_cases hlt : k < n
    · have hkl : k < l.length := by have := EN.out; omega
      have HC := Lib.hid (fun (W : World) (h : Below w.heap.size w W) => (HS.out.below h).cells k hkl)
      have hnx := HNX.out k hkl
      have hgood := HGOOD.out k (by have := EN.out; omega)
      have hxin : (l[k]?.getD default).In := by rw [List.getElem?_eq_getElem hkl]; exact hl _ (List.getElem_mem _)
      obtain ⟨bq, off, rfl, hbw, _⟩ := HS.out.cells k hkl
      obtain ⟨x, ex⟩ : ∃ x, x = l[k]?.getD default := ⟨_, rfl⟩
      simp only [← ex] at HC
      rw [← ex] at hnx hxin
      obtain ⟨f, ef⟩ : ∃ f, f = FS.at p sa ro l k := ⟨_, rfl⟩
      rw [← ef] at hnx hgood hsa hpa hqn hO ⊢
      obtain ⟨f2, ef2⟩ : ∃ f, f = FS.at p sa ro l (k + 1) := ⟨_, rfl⟩
      have EF2 := Lib.hid ef2
      rw [← ef2] at hnx
      have SA := Lib.hid hsa
      have PA := Lib.hid hpa
      have QN := Lib.hid hqn
      have OO := Lib.hid hO
      have X1 := Lib.hid hx1
      have X2 := Lib.hid hx2
      have MM := Lib.hid hM
      have CC : Hid (∀ W : World, Below w.heap.size w W → W.cell? ⟨bq, off + k * 2, none⟩ = some (.int .i64 x.tick) ∧ W.cell? ⟨bq, off + k * 2 + 1, none⟩ = some (.int .i64 x.val)) := fun W h => by
        obtain ⟨b', off', e', _, c0, c1⟩ := HC.out W h
        simp only [Option.some.injEq, Addr.mk.injEq, and_true] at e'
        obtain ⟨rfl, rfl⟩ := e'
        exact ⟨c0, c1⟩
      obtain ⟨sam, past, out⟩ := f
      simp only at SA PA QN OO hgood ⊢
      obtain ⟨lp, elp⟩ : ∃ n, n = past.length := ⟨_, rfl⟩
      have ELP := Lib.hid elp
      rw [← elp] at QN ⊢
      obtain ⟨ls, els⟩ : ∃ n, n = sam.length := ⟨_, rfl⟩
      have ELS := Lib.hid els
      rw [← els]
      have hlp64 : lp ≤ 64 := by have := hgood.2.2.2.1; omega
      have hls256 : ls ≤ 256 := by have := hgood.2.1; omega
      have HR := Lib.hid (ref08_right x)
      have HG := Lib.hid hgood
      have hk0 : (0 : Int) ≤ (k : Int) := by omega
      have hkn : (k : Int) < (n : Int) := by omega
      have hstM := stab_mem (w := w) (bs := [(w.heap.size, .cells #[.int .i64 p.mn, .int .i64 p.mx, .int .i64 p.tg, .int .i64 p.tl, .int .i64 p.wi, .int .i64 p.ho] 23)])
      clear hsa hpa hqn hO hx1 hx2 hM ex ef ef2 elp els hkl hgood HC
      obtain ⟨cd, ecd0⟩ : ∃ c, c = Ser.code x := ⟨_, rfl⟩
      rw [← ecd0] at HR
      have ECD := Lib.hid ecd0
      have HNX2 := Lib.hid hnx
      have HXI := Lib.hid hxin
      clear ecd0 hnx hxin
      have hst := stab_and (stab_and hstM (stab_sampsF (q := qs) (l := sam))) (stab_and (stab_advs (q := qp) (l := past)) (stab_owns (B := W0.heap.size) (sz := 5) (v := u9) (n := out.length) (xs := advVals out)))
      have START : Hid (∀ W : World, Below wr.heap.size wr W → ((Mem w W [(w.heap.size, .cells #[.int .i64 p.mn, .int .i64 p.mx, .int .i64 p.tg, .int .i64 p.tl, .int .i64 p.wi, .int .i64 p.ho] 23)] ∧ Samps W qs sam) ∧ Advs W qp past ∧ Owns W W0.heap.size 5 u9 out.length (advVals out))) := fun W h => ⟨⟨MM.out.call h, SA.out.below h⟩, PA.out.below h, OO.out.below h⟩
      by_cases hc : cd = 0
      · subst hc
        go_wp2_with fail
        refine wp_region_E mixed [] hst (START.out _ (below_drew (Below.refl _ _))) ?_
        refine wpAnyE_take 0 rfl (by kernel_rfl) (by kernel_rfl) (by kernel_rfl) (fun _ _ _ h => h) hst (EffB.pure rfl (fun _ => rfl)) (.inr (EffB.pure rfl (fun _ => rfl))) ?_
        simp only [act_norm]
        refine wpAnyE_take 1 rfl (by kernel_rfl) (by kernel_rfl) (by kernel_rfl) (fun _ _ _ h => h) hst (EffB.pure rfl (fun _ => rfl)) (.inr (EffB.pure rfl (fun _ => rfl))) ?_
        simp only [act_norm]
        refine wpAnyE_take 2 (v := .pointer (some ⟨bq, off + k * 2, none⟩)) rfl (by kernel_rfl) (by kernel_rfl) (by kernel_rfl) (fun _ _ _ h => h) hst (EffB.run rfl rfl (fun wd hS => ?_)) (.inr (EffB.run rfl rfl (fun wd hS => ?_))) ?_
        · (go_wp2; exact ⟨rfl, Below.refl _ _⟩)
        · (go_wp2; exact ⟨rfl, Below.refl _ _⟩)
        simp only [act_norm]
        refine wpAnyE_take 3 (v := .pointer (some ⟨bq, off + k * 2, none⟩)) rfl (by kernel_rfl) (by kernel_rfl) (by kernel_rfl) (fun _ _ _ h => h) hst (EffB.run rfl rfl (fun wd hS => ?_)) (.inr (EffB.run rfl rfl (fun wd hS => ?_))) ?_
        · (go_wp2; exact ⟨rfl, Below.refl _ _⟩)
        · (go_wp2; exact ⟨rfl, Below.refl _ _⟩)
        simp only [act_norm]
        refine wpAnyE_take 4 (v := .int .i64 x.tick) rfl (by kernel_rfl) (by kernel_rfl) (by kernel_rfl) (fun _ _ _ h => h) hst (EffB.run rfl rfl (fun wd hS => ?_)) (.inl (by kernel_rfl)) ?_
        · obtain ⟨c0, c1⟩ := CC.out wd hS.1.1.below; go_wp2; exact ⟨rfl, Below.refl _ _⟩
        simp only [act_norm]
        refine wpAnyE_take 5 rfl (by kernel_rfl) (by kernel_rfl) (by kernel_rfl) (fun _ _ _ h => h) hst (EffB.pure rfl (fun _ => rfl)) (.inr (EffB.pure rfl (fun _ => rfl))) ?_
        simp only [act_norm]
        refine wpAnyE_take 6 rfl (by kernel_rfl) (by kernel_rfl) (by kernel_rfl) (fun _ _ _ h => h) hst (EffB.pure rfl (fun _ => rfl)) (.inr (EffB.pure rfl (fun _ => rfl))) ?_
        simp only [act_norm]
        refine wpAnyE_take 7 (v := .pointer (some ⟨bq, off + k * 2, none⟩)) rfl (by kernel_rfl) (by kernel_rfl) (by kernel_rfl) (fun _ _ _ h => h) hst (EffB.run rfl rfl (fun wd hS => ?_)) (.inr (EffB.run rfl rfl (fun wd hS => ?_))) ?_
        · (go_wp2; exact ⟨rfl, Below.refl _ _⟩)
        · (go_wp2; exact ⟨rfl, Below.refl _ _⟩)
        simp only [act_norm]
        refine wpAnyE_take 8 (v := .pointer (some ⟨bq, off + k * 2 + 1, none⟩)) rfl (by kernel_rfl) (by kernel_rfl) (by kernel_rfl) (fun _ _ _ h => h) hst (EffB.run rfl rfl (fun wd hS => ?_)) (.inr (EffB.run rfl rfl (fun wd hS => ?_))) ?_
        · (go_wp2; exact ⟨rfl, Below.refl _ _⟩)
        · (go_wp2; exact ⟨rfl, Below.refl _ _⟩)
        simp only [act_norm]
        refine wpAnyE_take 9 (v := .int .i64 x.val) rfl (by kernel_rfl) (by kernel_rfl) (by kernel_rfl) (fun _ _ _ h => h) hst (EffB.run rfl rfl (fun wd hS => ?_)) (.inl (by kernel_rfl)) ?_
        · obtain ⟨c0, c1⟩ := CC.out wd hS.1.1.below; go_wp2; exact ⟨rfl, Below.refl _ _⟩
        simp only [act_norm]
        refine wpAnyE_take 10 (v := .int .i64 0) rfl (by kernel_rfl) (by kernel_rfl) (by kernel_rfl) (fun _ _ _ h => h) hst (EffB.run rfl rfl (fun wd hS => ?_)) (.inl (by kernel_rfl)) ?_
        · (go_wp2_with fail; (with_reducible refine (HR.out wd).mono ?_); rintro e w'' ⟨rfl, rfl⟩; exact ⟨rfl, Below.refl _ _⟩)
        simp only [act_norm]
        refine wpAnyE_take 11 rfl (by kernel_rfl) (by kernel_rfl) (by kernel_rfl) (fun _ _ _ h => h) hst (EffB.pure rfl (fun _ => rfl)) (.inr (EffB.pure rfl (fun _ => rfl))) ?_
        simp only [act_norm]
        refine wpAnyE_done (by kernel_rfl) (fun wd hS => ?_) _
        have HF := Lib.hid hS
        have hc := ECD.out.symm
        have hnx := HNX2.out
        have hxin := HXI.out
        have ecd := hc
        obtain ⟨c0, c1⟩ := CC.out wd hS.1.1.below
        have hgood := HG.out
        have P1 := ref08_put qs ls cs sam ELS.out.symm (by omega) hgood.1 sa x wd hS.1.2
        have hstep : f2 = if Dec.err p (Ser.put sam sa x) = 0 then ⟨Ser.put sam sa x, Ring.next ro past (Dec.of p (Ser.put sam sa x) past), out ++ [Dec.of p (Ser.put sam sa x) past]⟩ else ⟨Ser.put sam sa x, past, out⟩ := by
          rw [hnx]; unfold FS.step; rw [if_neg (by simpa using hc)]
        have q2 := Ser.put_length h1 hgood.2.1 x
        have q3 := Ser.put_In hgood.2.2.1 sa x hxin
        have hD := fun (sp : Option Addr) (sc : Nat) (W : World) (g1 : Samps W sp (Ser.put sam sa x)) (g2 : Advs W qp past) => ref16_of p hp sp sc (Ser.put sam sa x) q3 (by omega) qp cp past hgood.2.2.2.2.1 (by omega) (Dec.of p (Ser.put sam sa x) past) rfl W g1 g2
        have hPN := Adv.put_next h3 (show past.length ≤ ro from hgood.2.2.2.1)
        obtain ⟨S, eS⟩ : ∃ S, S = Ser.put sam sa x := ⟨_, rfl⟩
        rw [← eS] at P1 hstep q2
        simp only [← eS] at hD
        obtain ⟨o, eo⟩ : ∃ o, o = Dec.of p S past := ⟨_, rfl⟩
        obtain ⟨er, eer⟩ : ∃ o, o = Dec.err p S := ⟨_, rfl⟩
        rw [← eo, ← eer] at hstep
        simp only [← eo, ← eer] at hD
        have hPU := hPN o
        obtain ⟨l2, el2⟩ : ∃ n, n = S.length := ⟨_, rfl⟩
        rw [← el2] at P1
        simp only [← el2, ← ELP.out] at hD
        have EL2 := Lib.hid el2
        have PP1 := Lib.hid P1
        have HD := Lib.hid hD
        have HST := Lib.hid hstep
        have HPU := Lib.hid hPU
        have HOL : Hid (out.length ≤ 1000) := by show _ ≤ _; have := hgood.2.2.2.2.2; omega
        obtain ⟨xt, xv⟩ := x
        obtain ⟨ot, ol, ow, orr, oy⟩ := o
        simp only at c0 c1 PP1
        clear hS P1 hstep q2 q3 hD hPN hPU eS eo eer el2 hgood hxin hnx hc ecd HNX2 HXI ECD HR hst hstM START MM SA PA OO
        go_wp2_with fail
        (with_reducible refine PP1.out.mono ?_)
        rintro e w3 ⟨q3, d3, rfl, hd3, hs3, hq3, hb3⟩
        have M3 := Lib.hid (HF.out.1.1.call hb3)
        have SA3 := Lib.hid hs3
        have PA3 := Lib.hid (HF.out.2.1.below hb3)
        have OO3 := Lib.hid (HF.out.2.2.below hb3)
        have X13 : Hid (∀ ad, q3 = some ad → u9.ownBlock ≠ some ad.block) := fun ad had e => by
          have h1 := (hq3 ad had).1
          have h2 := (HF.out.2.2.lt _ e).2
          omega
        have HQB : Hid (∀ ad, q3 = some ad → ad.block < w3.heap.size) := fun ad had => (hq3 ad had).2
        have K3 := Lib.hid (M3.out.heap 0 rfl)
        clear hs3 hq3 hb3 PP1 c0 c1 HF
        go_wp2_with ((with_reducible refine wpList_load_rowAs rfl 23 _ rfl (w.heap.size) ?_ 23 #[.int .i64 p.mn, .int .i64 p.mx, .int .i64 p.tg, .int .i64 p.tl, .int .i64 p.wi, .int .i64 p.ho] (0, 0) _ 6 ?_ Tryz.underlying23 rfl (by kernel_rfl) ?_ ?_); exact rfl; exact K3.out; exact rfl)
        (with_reducible refine (HD.out q3 d3 w3 SA3.out PA3.out).mono ?_)
        rintro e w4 ⟨rfl, hb4⟩
        have hb4' := hb4.trans ((below1 w4 (.cells #[.int .i64 ot, .int .i64 ol, .int .i64 ow, .int .i64 orr, .int .i64 oy] 53)).mono hb4.size)
        have M4 := Lib.hid ((M3.out.call hb4).alloc (.cells #[.int .i64 ot, .int .i64 ol, .int .i64 ow, .int .i64 orr, .int .i64 oy] 53))
        have SA4 := Lib.hid (SA3.out.below hb4')
        have PA4 := Lib.hid (PA3.out.below hb4')
        have OO4 := Lib.hid (OO3.out.below hb4')
        have K4 := Lib.hid (M4.out.heap 1 rfl)
        have hs34 : w3.heap.size ≤ w4.heap.size := hb4.size
        have HUL : Hid (∀ k, u9.ownBlock = some k → k < w4.heap.size) := fun k hk => by have := (OO3.out.lt k hk).2; have := hb4.size; omega
        clear hb4 hb4' K3 M3 SA3 PA3 OO3 HD
        obtain ⟨X, eX⟩ : ∃ X, X = w4.heap.size := ⟨_, rfl⟩
        by_cases he : er = 0
        · subst he
          have hf2 : f2 = ⟨S, Ring.next ro past ⟨ot, ol, ow, orr, oy⟩, out ++ [⟨ot, ol, ow, orr, oy⟩]⟩ := HST.out.trans (if_pos rfl)
          have HF2 := Lib.hid hf2
          have P7 := ref14_put qp lp cp past ELP.out.symm (by omega) QN.out ro ⟨ot, ol, ow, orr, oy⟩ (w4.alloc (.cells #[.int .i64 ot, .int .i64 ol, .int .i64 ow, .int .i64 orr, .int .i64 oy] 53)) PA4.out
          rw [HPU.out] at P7
          have PP7 := Lib.hid P7
          clear hf2 HST P7
          go_wp2_with (first | ((with_reducible refine wpList_store_rowAs rfl 53 _ _ rfl (w4.heap.size) #[.int .i64 ot, .int .i64 ol, .int .i64 ow, .int .i64 orr, .int .i64 oy] ?_ ?_ 53 #[.int .i64 0, .int .i64 0, .int .i64 0, .int .i64 0, .int .i64 0] 5 ?_ (by kernel_rfl) rfl rfl (by simp [Value.oneCell']) ?_); exact rfl; exact rfl; exact (heap_alloc_at _ _ _ rfl); (first | rw [row_1_0] | rw [row_2_0] | rw [row_2_1] | rw [row_3_0] | rw [row_3_1] | rw [row_3_2] | rw [row_4_0] | rw [row_4_1] | rw [row_4_2] | rw [row_4_3] | rw [row_5_0] | rw [row_5_1] | rw [row_5_2] | rw [row_5_3] | rw [row_5_4] | rw [row_6_0] | rw [row_6_1] | rw [row_6_2] | rw [row_6_3] | rw [row_6_4] | rw [row_6_5] | simp only [setRow_alloc_past, setRow_alloc_at, World.size_alloc, Nat.add_assoc, Nat.reduceAdd, Nat.lt_add_right_iff_pos, Nat.add_lt_add_iff_left, Nat.reduceLT, Nat.zero_lt_succ, Nat.lt_add_one])) | ((with_reducible refine wpList_load_rowAs rfl 53 _ rfl (w4.heap.size) ?_ 53 #[.int .i64 ot, .int .i64 ol, .int .i64 ow, .int .i64 orr, .int .i64 oy] (0, 0) _ 5 ?_ Tryz.underlying53 rfl (by kernel_rfl) ?_ ?_); exact rfl; exact K4.out; exact rfl))
          (with_reducible refine PP7.out.mono ?_)
          rintro e w7 ⟨q7, d7, rfl, hd7, hs7, hq7, hb7⟩
          have hs47 : w4.heap.size ≤ w7.heap.size := by have := hb7.size; simp at this; omega
          have M7 := Lib.hid (M4.out.call hb7)
          have SA7 := Lib.hid (SA4.out.below hb7)
          have PA7 := Lib.hid hs7
          have OO7 := Lib.hid (OO4.out.below hb7)
          have Q7 := Lib.hid hq7
          have X27 : Hid (∀ ad, q7 = some ad → u9.ownBlock ≠ some ad.block) := fun ad had e => by
            have h1 := (hs7.2 ad had).1
            have h2 := HUL.out _ e
            simp at h1
            omega
          have K7 := Lib.hid (M7.out.heap 1 rfl)
          have hout := HOL.out
          have hB7 : W0.heap.size ≤ w7.heap.size := by have := M7.out.lt (i := 0) rfl; have := hW0s.out; omega
          clear hs7 hq7 hb7 PP7 M4 SA4 PA4 OO4 K4
          obtain ⟨lo, elo⟩ : ∃ n, n = out.length := ⟨_, rfl⟩
          have HO7 : Hid (Owns w7 W0.heap.size 5 u9 lo (advVals out)) := by show Owns _ _ _ _ _ _; rw [elo]; exact OO7.out
          rw [← elo] at hout
          have ELO := Lib.hid elo
          clear elo OO7
          obtain ⟨pu, cu, eu, _⟩ := HO7.out.sl
          subst eu
          go_wp2_with (first | ((with_reducible refine wpList_load_rowAs rfl 53 _ rfl (w4.heap.size) ?_ 53 #[.int .i64 ot, .int .i64 ol, .int .i64 ow, .int .i64 orr, .int .i64 oy] (0, 0) _ 5 ?_ Tryz.underlying53 rfl (by kernel_rfl) ?_ ?_); exact rfl; exact K7.out; exact rfl) | (at_builtin; refine wpList_append_new2 rfl _ _ 26 rfl _ _ 53 rfl W0.heap.size 53 (.agg #[.int .i64 0, .int .i64 0, .int .i64 0, .int .i64 0, .int .i64 0]) 5 40 Tryz.underlying26 advInfo rfl (by decide) _ _ _ rfl HO7.out rfl rfl (advVals_one1 ⟨ot, ol, ow, orr, oy⟩) (by unfold maxLen; omega) (by omega) hB7 ?_; intro u8 x8 ha8 hg8 hb8 hw8; have HA8 := Lib.hid ha8; have HG8 := Lib.hid hg8; have HW8 := Lib.hid hw8; clear ha8 hg8 hb8 hw8))
          have hO8 : Owns x8 W0.heap.size 5 u8 (out ++ [(⟨ot, ol, ow, orr, oy⟩ : Adv)]).length (advVals (out ++ [⟨ot, ol, ow, orr, oy⟩])) := by
            rw [List.length_append, advVals_append, ← ELO.out]
            exact HA8.out
          have hT8 : Turned (fun k => (Value.slice pu lo cu).ownBlock = some k) w7 x8 := Turned.refl.grown HG8.out (fun k hk _ => hk)
          have hM8 : Mem w x8 [(w.heap.size, .cells #[.int .i64 p.mn, .int .i64 p.mx, .int .i64 p.tg, .int .i64 p.tl, .int .i64 p.wi, .int .i64 p.ho] 23)] := by
            have := (M7.out.init : Mem w w7 [(w.heap.size, .cells #[.int .i64 p.mn, .int .i64 p.mx, .int .i64 p.tg, .int .i64 p.tl, .int .i64 p.wi, .int .i64 p.ho] 23)])
            exact this.folPut (B := W0.heap.size) (n := w7.heap.size) hT8 (fun k hk => HO7.out.lt k hk) (by have := hW0s.out; omega) (by have := hW0s.out; omega) (fun i c o h => by simp at h)
          have hx8 : ∀ ad, q3 = some ad → u8.ownBlock ≠ some ad.block := fun ad had e => by
            rcases HW8.out with h | h
            · exact X13.out ad had (h ▸ e)
            · have := h _ e; have := HQB.out ad had; omega
          have hx9 : ∀ ad, q7 = some ad → u8.ownBlock ≠ some ad.block := fun ad had e => by
            rcases HW8.out with h | h
            · exact X27.out ad had (h ▸ e)
            · have := h _ e; have := (PA7.out.2 ad had).2; omega
          exact ⟨⟨k + 1, u8, q3, q7, d3, d7, by omega, by go_num, rfl, by rw [← EF2.out, HF2.out], by rw [← EF2.out, HF2.out, EL2.out], by rw [← EF2.out, HF2.out]; exact SA7.out.turnedF hT8 (fun ad had e => X13.out ad had e), by rw [← EF2.out, HF2.out]; exact PA7.out.1.turnedF hT8 (fun ad had e => X27.out ad had e), by rw [← EF2.out, HF2.out]; exact Q7.out, by rw [← EF2.out, HF2.out]; exact hO8, hx8, hx9, hM8⟩, by simp [intOf]; omega⟩
        · have hf2 : f2 = ⟨S, past, out⟩ := HST.out.trans (if_neg he)
          have HF2 := Lib.hid hf2
          have heb : (er == 0) = false := beq_eq_false_iff_ne.2 he
          clear hf2 HST
          go_wp2_with ((with_reducible refine wpList_store_rowAs rfl 53 _ _ rfl (w4.heap.size) #[.int .i64 ot, .int .i64 ol, .int .i64 ow, .int .i64 orr, .int .i64 oy] ?_ ?_ 53 #[.int .i64 0, .int .i64 0, .int .i64 0, .int .i64 0, .int .i64 0] 5 ?_ (by kernel_rfl) rfl rfl (by simp [Value.oneCell']) ?_); exact rfl; exact rfl; exact (heap_alloc_at _ _ _ rfl); (first | rw [row_1_0] | rw [row_2_0] | rw [row_2_1] | rw [row_3_0] | rw [row_3_1] | rw [row_3_2] | rw [row_4_0] | rw [row_4_1] | rw [row_4_2] | rw [row_4_3] | rw [row_5_0] | rw [row_5_1] | rw [row_5_2] | rw [row_5_3] | rw [row_5_4] | rw [row_6_0] | rw [row_6_1] | rw [row_6_2] | rw [row_6_3] | rw [row_6_4] | rw [row_6_5] | simp only [setRow_alloc_past, setRow_alloc_at, World.size_alloc, Nat.add_assoc, Nat.reduceAdd, Nat.lt_add_right_iff_pos, Nat.add_lt_add_iff_left, Nat.reduceLT, Nat.zero_lt_succ, Nat.lt_add_one]))
          exact ⟨⟨k + 1, u9, q3, qp, d3, cp, by omega, by go_num, rfl, by rw [← EF2.out, HF2.out, ELP.out], by rw [← EF2.out, HF2.out, EL2.out], by rw [← EF2.out, HF2.out]; exact SA4.out, by rw [← EF2.out, HF2.out]; exact PA4.out, by rw [← EF2.out, HF2.out]; show qp = none → past.length = 0 ∧ cp = 0; rw [← ELP.out]; exact QN.out, by rw [← EF2.out, HF2.out]; exact OO4.out, X13.out, X2.out, M4.out.init⟩, by simp [intOf]; omega⟩
      · have hcb : (cd == 0) = false := beq_eq_false_iff_ne.2 hc
        have hcn : (cd != 0) = true := by simpa using hc
        have hfx : f2 = ⟨sam, past, out⟩ := by rw [HNX2.out]; unfold FS.step; rw [if_pos (by rw [← ECD.out]; exact hc)]
        have HFX := Lib.hid hfx
        clear hfx
        go_wp2_with fail
        refine wp_region_E mixed [] hst (START.out _ (below_drew (Below.refl _ _))) ?_
        refine wpAnyE_take 0 rfl (by kernel_rfl) (by kernel_rfl) (by kernel_rfl) (fun _ _ _ h => h) hst (EffB.pure rfl (fun _ => rfl)) (.inr (EffB.pure rfl (fun _ => rfl))) ?_
        simp only [act_norm]
        refine wpAnyE_take 1 rfl (by kernel_rfl) (by kernel_rfl) (by kernel_rfl) (fun _ _ _ h => h) hst (EffB.pure rfl (fun _ => rfl)) (.inr (EffB.pure rfl (fun _ => rfl))) ?_
        simp only [act_norm]
        refine wpAnyE_take 2 (v := .pointer (some ⟨bq, off + k * 2, none⟩)) rfl (by kernel_rfl) (by kernel_rfl) (by kernel_rfl) (fun _ _ _ h => h) hst (EffB.run rfl rfl (fun wd hS => ?_)) (.inr (EffB.run rfl rfl (fun wd hS => ?_))) ?_
        · (go_wp2; exact ⟨rfl, Below.refl _ _⟩)
        · (go_wp2; exact ⟨rfl, Below.refl _ _⟩)
        simp only [act_norm]
        refine wpAnyE_take 3 (v := .pointer (some ⟨bq, off + k * 2, none⟩)) rfl (by kernel_rfl) (by kernel_rfl) (by kernel_rfl) (fun _ _ _ h => h) hst (EffB.run rfl rfl (fun wd hS => ?_)) (.inr (EffB.run rfl rfl (fun wd hS => ?_))) ?_
        · (go_wp2; exact ⟨rfl, Below.refl _ _⟩)
        · (go_wp2; exact ⟨rfl, Below.refl _ _⟩)
        simp only [act_norm]
        refine wpAnyE_take 4 (v := .int .i64 x.tick) rfl (by kernel_rfl) (by kernel_rfl) (by kernel_rfl) (fun _ _ _ h => h) hst (EffB.run rfl rfl (fun wd hS => ?_)) (.inl (by kernel_rfl)) ?_
        · obtain ⟨c0, c1⟩ := CC.out wd hS.1.1.below; go_wp2; exact ⟨rfl, Below.refl _ _⟩
        simp only [act_norm]
        refine wpAnyE_take 5 rfl (by kernel_rfl) (by kernel_rfl) (by kernel_rfl) (fun _ _ _ h => h) hst (EffB.pure rfl (fun _ => rfl)) (.inr (EffB.pure rfl (fun _ => rfl))) ?_
        simp only [act_norm]
        refine wpAnyE_take 6 rfl (by kernel_rfl) (by kernel_rfl) (by kernel_rfl) (fun _ _ _ h => h) hst (EffB.pure rfl (fun _ => rfl)) (.inr (EffB.pure rfl (fun _ => rfl))) ?_
        simp only [act_norm]
        refine wpAnyE_take 7 (v := .pointer (some ⟨bq, off + k * 2, none⟩)) rfl (by kernel_rfl) (by kernel_rfl) (by kernel_rfl) (fun _ _ _ h => h) hst (EffB.run rfl rfl (fun wd hS => ?_)) (.inr (EffB.run rfl rfl (fun wd hS => ?_))) ?_
        · (go_wp2; exact ⟨rfl, Below.refl _ _⟩)
        · (go_wp2; exact ⟨rfl, Below.refl _ _⟩)
        simp only [act_norm]
        refine wpAnyE_take 8 (v := .pointer (some ⟨bq, off + k * 2 + 1, none⟩)) rfl (by kernel_rfl) (by kernel_rfl) (by kernel_rfl) (fun _ _ _ h => h) hst (EffB.run rfl rfl (fun wd hS => ?_)) (.inr (EffB.run rfl rfl (fun wd hS => ?_))) ?_
        · (go_wp2; exact ⟨rfl, Below.refl _ _⟩)
        · (go_wp2; exact ⟨rfl, Below.refl _ _⟩)
        simp only [act_norm]
        refine wpAnyE_take 9 (v := .int .i64 x.val) rfl (by kernel_rfl) (by kernel_rfl) (by kernel_rfl) (fun _ _ _ h => h) hst (EffB.run rfl rfl (fun wd hS => ?_)) (.inl (by kernel_rfl)) ?_
        · obtain ⟨c0, c1⟩ := CC.out wd hS.1.1.below; go_wp2; exact ⟨rfl, Below.refl _ _⟩
        simp only [act_norm]
        refine wpAnyE_take 10 (v := .int .i64 cd) rfl (by kernel_rfl) (by kernel_rfl) (by kernel_rfl) (fun _ _ _ h => h) hst (EffB.run rfl rfl (fun wd hS => ?_)) (.inl (by kernel_rfl)) ?_
        · (go_wp2_with fail; (with_reducible refine (HR.out wd).mono ?_); rintro e w'' ⟨rfl, rfl⟩; exact ⟨rfl, Below.refl _ _⟩)
        simp only [act_norm]
        refine wpAnyE_take 11 rfl (by kernel_rfl) (by kernel_rfl) (by kernel_rfl) (fun _ _ _ h => h) hst (EffB.pure rfl (fun _ => rfl)) (.inr (EffB.pure rfl (fun _ => rfl))) ?_
        simp only [act_norm]
        refine wpAnyE_done (by kernel_rfl) (fun wd hS => ?_) _
        have HF := Lib.hid hS
        clear hS hst hstM START MM SA PA OO HR
        go_wp2
        exact ⟨⟨k + 1, u9, qs, qp, cs, cp, by omega, by go_num, rfl, by rw [← EF2.out, HFX.out, ELP.out], by rw [← EF2.out, HFX.out, ELS.out], by rw [← EF2.out, HFX.out]; exact HF.out.1.2, by rw [← EF2.out, HFX.out]; exact HF.out.2.1, by rw [← EF2.out, HFX.out]; show qp = none → past.length = 0 ∧ cp = 0; rw [← ELP.out]; exact QN.out, by rw [← EF2.out, HFX.out]; exact HF.out.2.2, X1.out, X2.out, HF.out.1.1⟩, by simp [intOf]; omega⟩
    · obtain rfl : k = n := by omega
      have HO := Lib.hid (hO.mono (by have := hW0s.out; omega : w.heap.size ≤ W0.heap.size))
      have HB := Lib.hid hM.below
      go_wp2
      go_ret
      exact ⟨_, rfl, HO.out, HB.out⟩
end Go.Proofs.YtildjnibdappnaaGreat
