/- Layer 16: decisions made sample by sample, walked. -/
import Derived.Test.YtcanbagnehdbiaaJFol
import Derived.Deep.CutRange
namespace Go.Proofs.Ytcanbagnehdbiaa
open Go.ChangeShapes Go.WideShapes Go.ChangeAt Go.RowKit

theorem Mem.turnedF {S : Nat → Prop} {w w' w'' : World} {bs : List (Nat × Obj)} (h : Mem w w' bs) (ht : Turned S w' w'') (hS : ∀ k, S k → w.heap.size ≤ k ∧ ∀ (i : Nat) (o : Obj), bs[i]? ≠ some (k, o)) : Mem w w'' bs :=
  ⟨h.below.trans (ht.below (fun k hk => (hS k hk).1) h.below.size), fun i b o hi => (ht.block b (h.lt hi) (fun hk => (hS b hk).2 i o hi)).trans (h.has i b o hi), h.apart, h.own⟩
theorem Fol.low {w : World} {B s h r : Nat} {vs vh u : Value} {sa ro : Nat} {f : FS} (F : Fol w B s h r vs vh u sa ro f) : (∀ k, (k = s ∨ vs.ownBlock = some k) → B ≤ k ∧ k < w.heap.size) ∧ (∀ k, (k = r ∨ vh.ownBlock = some k) → B ≤ k ∧ k < w.heap.size) ∧ (∀ k, u.ownBlock = some k → B ≤ k ∧ k < w.heap.size) := by
  refine ⟨fun k hk => ?_, fun k hk => ?_, fun k hk => F.out.lt k hk⟩
  · rcases hk with rfl | hk
    · exact ⟨F.ser.low, F.ser.lt⟩
    · exact F.ser.owns.lt k hk
  · rcases hk with rfl | hk
    · exact ⟨F.his.ring.apart.2.1, F.his.ring.lt.1⟩
    · exact ⟨F.his.ring.apart.2.2 k hk, F.his.ring.lt.2 k hk⟩
theorem Mem.folPut {S : Nat → Prop} {w w' w'' : World} {b : Nat} {o : Obj} {bs : List (Nat × Obj)} {B n : Nat} (h : Mem w w' ((b, o) :: bs)) (ht : Turned S w' w'') (hS : ∀ k, S k → B ≤ k ∧ k < n) (hb : b < B) (hw : w.heap.size ≤ B) (hbs : ∀ (i c : Nat) (o : Obj), bs[i]? = some (c, o) → n ≤ c) : Mem w w'' ((b, o) :: bs) :=
  h.turnedF ht (fun k hk => by
    obtain ⟨h1, h2⟩ := hS k hk
    refine ⟨by omega, fun i o' hi => ?_⟩
    cases i with
    | zero => simp at hi; omega
    | succ i => have := hbs i k o' (by simpa using hi); omega)

theorem Fol.other {w w' : World} {B s h r : Nat} {vs vh u : Value} {sa ro : Nat} {f : FS} {X : Nat} (F : Fol w B s h r vs vh u sa ro f) (hl : (∀ k, (k = s ∨ vs.ownBlock = some k) → B ≤ k ∧ k < X) ∧ (∀ k, (k = r ∨ vh.ownBlock = some k) → B ≤ k ∧ k < X) ∧ (∀ k, u.ownBlock = some k → B ≤ k ∧ k < X)) (ht : Turned (fun k => k = X) w w') (hh : h ≠ X) : Fol w' B s h r vs vh u sa ro f :=
  ⟨F.ser.turned ht (fun e => by have := (hl.1 s (.inl rfl)).2; have h2 : s = X := e; omega) (fun k hk e => by have := (hl.1 k (.inr hk)).2; have h2 : k = X := e; omega),
    F.his.turned ht hh (fun e => by have := (hl.2.1 r (.inl rfl)).2; have h2 : r = X := e; omega) (fun k hk e => by have := (hl.2.1 k (.inr hk)).2; have h2 : k = X := e; omega),
    F.out.same ht.size (fun k hk => ht.block k (F.out.lt k hk).2 (fun e => by have := (hl.2.2 k hk).2; have h2 : k = X := e; omega)), F.sh, F.sr, F.vsx, F.vhx, F.ux⟩

set_option maxHeartbeats 4000000 in
set_option maxRecDepth 100000 in
theorem follow_none (p : Pol) (q : Option Addr) (n cap : Nat) (sa ro : Int) (hbad : sa < 1 ∨ 256 < sa ∨ ro < 1 ∨ 64 < ro) (w : World) :
    Calls Try.prog 19 #[.agg #[.int .i64 p.mn, .int .i64 p.mx, .int .i64 p.tg, .int .i64 p.tl, .int .i64 p.wi, .int .i64 p.ho], .slice q n cap, .int .i64 sa, .int .i64 ro] w fun e w' => e = .returned (.slice none 0 0) ∧ Below w.heap.size w w' := by
  by_cases h1 : sa < 1 ∨ 256 < sa
  · have N1 := Lib.hid (ser_new_no sa h1)
    by_cases h2 : ro < 1 ∨ 64 < ro
    · have N2 := Lib.hid (hist_new_no ro h2)
      clear h1 h2 hbad
      go_enter Try.func19, Try.ntmps19
      go_wp2_with (first | ((with_reducible refine (N1.out _).mono ?_); rintro e w1 ⟨rfl, rfl⟩) | ((with_reducible refine (N2.out _).mono ?_); rintro e w1 ⟨rfl, rfl⟩))
      go_ret
      exact ⟨rfl, below1 _ _⟩
    · obtain ⟨R, rfl⟩ : ∃ R : Nat, ro = R := ⟨ro.toNat, by omega⟩
      have N2 := Lib.hid (hist_new R (by omega) (by omega))
      clear h1 h2 hbad
      go_enter Try.func19, Try.ntmps19
      go_wp2_with ((with_reducible refine (N1.out _).mono ?_); rintro e w1 ⟨rfl, rfl⟩)
      (with_reducible refine (N2.out _).mono ?_)
      rintro e w1 ⟨h, r, rfl, _, hb⟩
      have HB := Lib.hid ((below1 w _).trans (hb.mono (by simp)))
      clear hb
      go_wp2
      go_ret
      exact ⟨rfl, HB.out⟩
  · have h2 : ro < 1 ∨ 64 < ro := by omega
    obtain ⟨R, rfl⟩ : ∃ R : Nat, sa = R := ⟨sa.toNat, by omega⟩
    have N1 := Lib.hid (ser_new R (by omega) (by omega))
    have N2 := Lib.hid (hist_new_no ro h2)
    clear h1 h2 hbad
    go_enter Try.func19, Try.ntmps19
    go_wp2_with fail
    (with_reducible refine (N1.out _).mono ?_)
    rintro e w1 ⟨s, rfl, _, hb⟩
    have HB := Lib.hid ((below1 w _).trans (hb.mono (by simp)))
    clear hb
    go_wp2_with ((with_reducible refine (N2.out _).mono ?_); rintro e w1 ⟨rfl, rfl⟩)
    go_ret
    exact ⟨rfl, HB.out⟩

set_option maxHeartbeats 4000000 in
set_option maxRecDepth 100000 in
theorem follow_some (p : Pol) (hp : p.In) (q : Option Addr) (cap : Nat) (l : List Samp) (hl : ∀ a ∈ l, a.In) (hb : l.length ≤ 1000) (sa ro : Nat) (h1 : 1 ≤ sa) (h2 : sa ≤ 256) (h3 : 1 ≤ ro) (h4 : ro ≤ 64) (w : World) (hs : Samps w q l) :
    Calls Try.prog 19 #[.agg #[.int .i64 p.mn, .int .i64 p.mx, .int .i64 p.tg, .int .i64 p.tl, .int .i64 p.wi, .int .i64 p.ho], .slice q l.length cap, .int .i64 sa, .int .i64 ro] w fun e w' => ∃ u, e = .returned u ∧ Owns w' w.heap.size 5 u (FS.at p sa ro l l.length).out.length (advVals (FS.at p sa ro l l.length).out) ∧ Below w.heap.size w w' := by
  have N1 := Lib.hid (ser_new sa h1 h2)
  have N2 := Lib.hid (hist_new ro h3 h4)
  have HS := Lib.hid hs
  have HGOOD := Lib.hid (FS.good p hp sa ro h1 h3 l hl)
  have HNX := Lib.hid (FS.at_next p sa ro l)
  obtain ⟨n, en⟩ : ∃ n, n = l.length := ⟨_, rfl⟩
  have EN := Lib.hid en
  rw [← en] at hb ⊢
  obtain ⟨W0, hW0⟩ : ∃ W, W = w.alloc (.cells #[.int .i64 p.mn, .int .i64 p.mx, .int .i64 p.tg, .int .i64 p.tl, .int .i64 p.wi, .int .i64 p.ho] 23) := ⟨_, rfl⟩
  have M0 : Hid (Mem w W0 [(w.heap.size, .cells #[.int .i64 p.mn, .int .i64 p.mx, .int .i64 p.tg, .int .i64 p.tl, .int .i64 p.wi, .int .i64 p.ho] 23)]) := by show Mem _ _ _; rw [hW0]; exact (Mem.start w).alloc _
  have hW0s : Hid (W0.heap.size = w.heap.size + 1) := by show _ = _; rw [hW0]; simp
  clear hs en
  go_enter Try.func19, Try.ntmps19
  go_upto_region 1 with fail
  rw [← hW0]
  clear hW0
  go_wp2_with fail
  (with_reducible refine (N1.out _).mono ?_)
  rintro e w1 ⟨s, rfl, hse, hb1⟩
  go_wp2_with fail
  (with_reducible refine (N2.out _).mono ?_)
  rintro e w2 ⟨h, r, rfl, hhi, hb2⟩
  have M2 := Lib.hid ((M0.out.call hb1).call hb2)
  have F2 : Hid (Fol w2 W0.heap.size s h r (.slice none 0 0) (.slice none 0 0) (.slice none 0 0) sa ro (FS.at p sa ro l 0)) := by
    have hsl := hse.lt
    have hlo := hhi.low
    have hlr := hhi.ring.apart.2.1
    refine ⟨hse.below hb2, hhi.lift hb1.size, owns_nil _ _ _, by omega, by omega, ?_, ?_, ?_⟩ <;> (intro k hk; simp [Value.ownBlock] at hk)
  clear hse hhi hb1 hb2 N1 N2 M0
  go_wp2
  go_loopw [13, 34] (fun o i wr => ∃ (k : Nat) (vs vh uo : Value), k ≤ n ∧ i = .int .i64 (k : Nat) ∧ o = uo ∧ Fol wr W0.heap.size s h r vs vh uo sa ro (FS.at p sa ro l k) ∧ Mem w wr [(w.heap.size, .cells #[.int .i64 p.mn, .int .i64 p.mx, .int .i64 p.tg, .int .i64 p.tl, .int .i64 p.wi, .int .i64 p.ho] 23)]) (fun _ i _ => n - (intOf i).toNat)
  case atStart => exact ⟨0, _, _, _, by omega, rfl, rfl, F2.out, M2.out⟩
  case round =>
    obtain ⟨k, vs, vh, uo, hk, rfl, rfl, hF, hM⟩ := hrel
    have FF := Lib.hid hF
    have MM := Lib.hid hM
    clear hF hM F2 M2
    by_cases hlt : k < n
    · have hkl : k < l.length := by have := EN.out; omega
      obtain ⟨bq, off, rfl, hbw, c0, c1⟩ := (HS.out.below MM.out.below).cells k hkl
      have hnx := HNX.out k hkl
      have hgood := HGOOD.out k (by have := EN.out; omega)
      have hgood2 := HGOOD.out (k + 1) (by have := EN.out; omega)
      have hxin : (l[k]?.getD default).In := by rw [List.getElem?_eq_getElem hkl]; exact hl _ (List.getElem_mem _)
      obtain ⟨x, ex⟩ : ∃ x, x = l[k]?.getD default := ⟨_, rfl⟩
      rw [← ex] at c0 c1 hnx hxin
      obtain ⟨f, ef⟩ : ∃ f, f = FS.at p sa ro l k := ⟨_, rfl⟩
      rw [← ef] at FF hnx hgood
      obtain ⟨f2, ef2⟩ : ∃ f, f = FS.at p sa ro l (k + 1) := ⟨_, rfl⟩
      have EF2 := Lib.hid ef2
      rw [← ef2] at hnx hgood2
      have MA := Lib.hid (MM.out.alloc (.cells #[.int .i64 x.tick, .int .i64 x.val] 73))
      have FA := Lib.hid (FF.out.below (below1 wr (.cells #[.int .i64 x.tick, .int .i64 x.val] 73)))
      clear ex ef ef2 hkl
      by_cases hc : Ser.code x = 0
      · have hP := ser_put FA.out.ser (by have := FA.out.low.1 s (.inl rfl); omega) x hc
        have HP := Lib.hid hP
        have hstep : f2 = if Dec.err p (Ser.put f.sam sa x) = 0 then ⟨Ser.put f.sam sa x, Ring.next ro f.past (Dec.of p (Ser.put f.sam sa x) f.past), f.out ++ [Dec.of p (Ser.put f.sam sa x) f.past]⟩ else ⟨Ser.put f.sam sa x, f.past, f.out⟩ := by
          rw [hnx]; unfold FS.step; rw [if_neg (by simpa using hc)]
        have q2 := Ser.put_length h1 hgood.2.1 x
        have q3 := Ser.put_In hgood.2.2.1 sa x hxin
        have hD := fun (sp : Option Addr) (sc : Nat) (qq : Option Addr) (qc : Nat) (W : World) (g1 : Samps W sp (Ser.put f.sam sa x)) (g2 : Advs W qq f.past) => decide_of p hp sp sc (Ser.put f.sam sa x) q3 (by omega) qq qc f.past hgood.2.2.2.2.1 (by have := hgood.2.2.2.1; omega) (Dec.of p (Ser.put f.sam sa x) f.past) rfl W g1 g2
        obtain ⟨S, eS⟩ : ∃ S, S = Ser.put f.sam sa x := ⟨_, rfl⟩
        rw [← eS] at HP hstep q2 hD
        obtain ⟨sam, past, out⟩ := f
        simp only at hstep hD hgood HP
        obtain ⟨o, eo⟩ : ∃ o, o = Dec.of p S past := ⟨_, rfl⟩
        obtain ⟨er, eer⟩ : ∃ o, o = Dec.err p S := ⟨_, rfl⟩
        rw [← eo, ← eer] at hstep
        simp only [← eo, ← eer] at hD
        obtain ⟨ls, els⟩ : ∃ n, n = S.length := ⟨_, rfl⟩
        obtain ⟨lp, elp⟩ : ∃ n, n = past.length := ⟨_, rfl⟩
        rw [← els] at hD
        rw [← elp] at hD
        have ELS := Lib.hid els
        have ELP := Lib.hid elp
        have HD := Lib.hid hD
        have HST := Lib.hid hstep
        have HOUT : Hid (out.length ≤ 1000) := by show _ ≤ _; have := hgood.2.2.2.2.2; omega
        obtain ⟨ot, ol, ow, orr, oy⟩ := o
        clear hP hnx hstep q2 q3 hD hgood hgood2 hc eS eo eer els elp hxin
        go_wp2_with fail
        (with_reducible refine HP.out.mono ?_)
        rintro e w3 ⟨rfl, vs3, hse3, ht3, hv3⟩
        have F3 := Lib.hid (FA.out.put hse3 ht3 hv3)
        have M3 := Lib.hid (MA.out.init.folPut ht3 FA.out.low.1 (by have := hW0s.out; omega) (by have := hW0s.out; omega) (fun i c o h => by simp at h))
        have hst := stab_and (stab_fol (B := W0.heap.size) (s := s) (h := h) (r := r) (vs := vs3) (vh := vh) (u := u13) (sa := sa) (ro := ro) (f := ⟨S, past, out⟩)) (stab_mem (w := w) (bs := [(w.heap.size, .cells #[.int .i64 p.mn, .int .i64 p.mx, .int .i64 p.tg, .int .i64 p.tl, .int .i64 p.wi, .int .i64 p.ho] 23)]))
        clear hse3 ht3 hv3 HP FA MA c0 c1 FF MM
        go_wp2_with fail
        refine wp_region_E mixed [10] hst ⟨F3.out.below (below_drew (Below.refl _ _)), M3.out.drewN 1⟩ ?_
        refine wpAnyE_take 0 (v := .agg #[.int .i64 p.mn, .int .i64 p.mx, .int .i64 p.tg, .int .i64 p.tl, .int .i64 p.wi, .int .i64 p.ho]) rfl (by kernel_rfl) (by kernel_rfl) (by kernel_rfl) (fun _ _ _ h => h) hst (EffB.run rfl rfl (fun wd hS => ?_)) (.inl (by kernel_rfl)) ?_
        · exact wp_load_row 23 _ rfl (w.heap.size) rfl 23 #[.int .i64 p.mn, .int .i64 p.mx, .int .i64 p.tg, .int .i64 p.tl, .int .i64 p.wi, .int .i64 p.ho] (0, 0) _ (hS.2.heap 0 rfl) Try.underlying23 rfl (by kernel_rfl) ⟨rfl, Below.refl _ _⟩
        simp only [act_norm]
        refine wpAnyE_take 1 rfl (by kernel_rfl) (by kernel_rfl) (by kernel_rfl) (fun _ _ _ h => h) hst (EffB.pure rfl (fun _ => rfl)) (.inr (EffB.pure rfl (fun _ => rfl))) ?_
        simp only [act_norm]
        refine wpAnyE_take 3 rfl (by kernel_rfl) (by kernel_rfl) (by kernel_rfl) (fun _ _ _ h => h) hst (EffB.pure rfl (fun _ => rfl)) (.inr (EffB.pure rfl (fun _ => rfl))) ?_
        simp only [act_norm]
        refine wpAnyE_two 2 9 rfl rfl (by kernel_rfl) rfl rfl (fun wd hS => ?_) (fun wd hS => ?_)
        · have P4 := ser_list hS.1.ser
          simp only [← ELS.out] at P4
          go_wp2_with fail
          (with_reducible refine P4.mono ?_)
          rintro e w4 ⟨p4, c4, rfl, _, hs4, hb4⟩
          have hstN := stab_and hst (stab_sampsF (q := p4) (l := S))
          refine ⟨_, ⟨hst _ _ hS hb4, hs4⟩, hstN, (by first | exact (fun _ h => h.1) | exact .inr (fun _ h => h.1)), ?_⟩
          try simp only [act_norm]
          clear hS hs4 hb4 P4 hst
          have hst := hstN
          clear hstN
          refine wpAnyE_two 4 9 rfl rfl (by kernel_rfl) rfl rfl (fun wd hS => ?_) (fun wd hS => ?_)
          · have P5 := hist_list hS.1.1.his
            simp only [← ELP.out] at P5
            go_wp2_with fail
            (with_reducible refine P5.mono ?_)
            rintro e w5 ⟨p5, c5, rfl, _, hs5, hb5⟩
            have hstN := stab_and hst (stab_advs (q := p5) (l := past))
            refine ⟨_, ⟨hst _ _ hS hb5, hs5⟩, hstN, (by first | exact (fun _ h => h.1) | exact .inr (fun _ h => h.1)), ?_⟩
            try simp only [act_norm]
            clear hS hs5 hb5 P5 hst
            have hst := hstN
            clear hstN
            refine wpAnyE_take 5 (v := .tuple #[.agg #[.int .i64 ot, .int .i64 ol, .int .i64 ow, .int .i64 orr, .int .i64 oy], .int .i64 er]) rfl (by kernel_rfl) (by kernel_rfl) (by kernel_rfl) (fun _ _ _ h => h) hst (EffB.run rfl rfl (fun wd hS => ?_)) (.inl (by kernel_rfl)) ?_
            · (go_wp2_with fail; (with_reducible refine (HD.out p4 c4 p5 c5 wd hS.1.2 hS.2).mono ?_); rintro e w'' ⟨rfl, hb⟩; exact ⟨rfl, hb⟩)
            simp only [act_norm]
            refine wpAnyE_take 6 rfl (by kernel_rfl) (by kernel_rfl) (by kernel_rfl) (fun _ _ _ h => h) hst (EffB.pure rfl (fun _ => rfl)) (.inr (EffB.pure rfl (fun _ => rfl))) ?_
            simp only [act_norm]
            refine wpAnyE_take 7 (v := .agg #[.int .i64 ot, .int .i64 ol, .int .i64 ow, .int .i64 orr, .int .i64 oy]) rfl (by kernel_rfl) (by kernel_rfl) (by kernel_rfl) (fun _ _ _ h => h) hst (EffB.run rfl rfl (fun wd hS => ?_)) (.inr (EffB.run rfl rfl (fun wd hS => ?_))) ?_
            · (go_wp2; exact ⟨rfl, Below.refl _ _⟩)
            · (go_wp2; exact ⟨rfl, Below.refl _ _⟩)
            simp only [act_norm]
            refine wpAnyE_take 8 (v := .int .i64 er) rfl (by kernel_rfl) (by kernel_rfl) (by kernel_rfl) (fun _ _ _ h => h) hst (EffB.run rfl rfl (fun wd hS => ?_)) (.inr (EffB.run rfl rfl (fun wd hS => ?_))) ?_
            · (go_wp2; exact ⟨rfl, Below.refl _ _⟩)
            · (go_wp2; exact ⟨rfl, Below.refl _ _⟩)
            simp only [act_norm]
            refine wpAnyE_one 9 rfl (by kernel_rfl) rfl (fun wd hS => ?_)
            have hlow := hS.1.1.1.low
            have hhX := lt_of_heap hS.1.1.1.his.row
            have hstN := stab_and (stab_and (stab_fol (B := W0.heap.size) (s := s) (h := h) (r := r) (vs := vs3) (vh := vh) (u := u13) (sa := sa) (ro := ro) (f := ⟨S, past, out⟩)) (stab_mem (w := w) (bs := [(w.heap.size, .cells #[.int .i64 p.mn, .int .i64 p.mx, .int .i64 p.tg, .int .i64 p.tl, .int .i64 p.wi, .int .i64 p.ho] 23), (wd.heap.size, .cells #[.int .i64 0, .int .i64 0, .int .i64 0, .int .i64 0, .int .i64 0] 56)]))) (stab_and (stab_sampsF (q := p4) (l := S)) (stab_advs (q := p5) (l := past)))
            have X4 := Lib.hid (And.intro (And.intro (hS.1.1.1.below (below1 wd (.cells #[.int .i64 0, .int .i64 0, .int .i64 0, .int .i64 0, .int .i64 0] 56))) (hS.1.1.2.alloc (.cells #[.int .i64 0, .int .i64 0, .int .i64 0, .int .i64 0, .int .i64 0] 56))) (And.intro (hS.1.2.below (below1 wd (.cells #[.int .i64 0, .int .i64 0, .int .i64 0, .int .i64 0, .int .i64 0] 56))) (hS.2.below (below1 wd (.cells #[.int .i64 0, .int .i64 0, .int .i64 0, .int .i64 0, .int .i64 0] 56)))))
            clear hS
            go_wp2
            refine ⟨_, X4.out, hstN, (by first | exact (fun _ h => ⟨⟨⟨h.1.1, h.1.2.init⟩, h.2.1⟩, h.2.2⟩) | exact .inr (fun _ h => ⟨⟨⟨h.1.1, h.1.2.init⟩, h.2.1⟩, h.2.2⟩)), ?_⟩
            obtain ⟨X, hX⟩ : ∃ X, wd.heap.size = X := ⟨_, rfl⟩
            rw [hX] at hstN hlow hhX ⊢
            clear X4 hX hst
            try simp only [act_norm]
            have hst := hstN
            clear hstN
            refine wpAnyE_one 10 rfl (by kernel_rfl) rfl (fun wd hS => ?_)
            have hst5 := stab_and (stab_fol (B := W0.heap.size) (s := s) (h := h) (r := r) (vs := vs3) (vh := vh) (u := u13) (sa := sa) (ro := ro) (f := ⟨S, past, out⟩)) (stab_mem (w := w) (bs := [(w.heap.size, .cells #[.int .i64 p.mn, .int .i64 p.mx, .int .i64 p.tg, .int .i64 p.tl, .int .i64 p.wi, .int .i64 p.ho] 23), (X, .cells #[.int .i64 ot, .int .i64 ol, .int .i64 ow, .int .i64 orr, .int .i64 oy] 56)]))
            refine wp_store_row 56 _ _ rfl X #[.int .i64 ot, .int .i64 ol, .int .i64 ow, .int .i64 orr, .int .i64 oy] rfl rfl 56 #[.int .i64 0, .int .i64 0, .int .i64 0, .int .i64 0, .int .i64 0] (hS.1.2.heap 1 rfl) advSize5 rfl (by simp [Value.oneCell']) ?_
            have hF5 : Fol (wd.setRow X #[.int .i64 ot, .int .i64 ol, .int .i64 ow, .int .i64 orr, .int .i64 oy]) W0.heap.size s h r vs3 vh u13 sa ro ⟨S, past, out⟩ := hS.1.1.other hlow (turned_setRow wd X #[.int .i64 ot, .int .i64 ol, .int .i64 ow, .int .i64 orr, .int .i64 oy]) (by omega)
            refine ⟨_, ⟨hF5, hS.1.2.setRow 1 rfl⟩, hst5, .inl (by decide), ?_⟩
            clear hS hF5 hst
            try simp only [act_norm]
            have hst := hst5
            refine wpAnyE_take 11 rfl (by kernel_rfl) (by kernel_rfl) (by kernel_rfl) (fun _ _ _ h => h) hst (EffB.pure rfl (fun _ => rfl)) (.inr (EffB.pure rfl (fun _ => rfl))) ?_
            simp only [act_norm]
            refine wpAnyE_done (by kernel_rfl) (fun wd hS => ?_) _
            have F6 := Lib.hid hS.1
            have M6 := Lib.hid hS.2
            have K6 := Lib.hid (hS.2.heap 1 rfl)
            clear hS hst5 hst
            by_cases he : er = 0
            · subst he
              have hf2 : f2 = ⟨S, Ring.next ro past ⟨ot, ol, ow, orr, oy⟩, out ++ [⟨ot, ol, ow, orr, oy⟩]⟩ := HST.out.trans (if_pos rfl)
              have HF2 := Lib.hid hf2
              have P7 := Lib.hid (hist_add F6.out.his (by have := hlow.2.2; have := F6.out.his.low; have := lt_of_heap F6.out.his.row; omega) ⟨ot, ol, ow, orr, oy⟩)
              clear hf2 HST
              go_wp2_with ((with_reducible refine wpList_load_rowAs rfl 56 _ rfl (X) ?_ 56 #[.int .i64 ot, .int .i64 ol, .int .i64 ow, .int .i64 orr, .int .i64 oy] (0, 0) _ 5 ?_ Try.underlying56 rfl (by kernel_rfl) ?_ ?_); exact rfl; exact K6.out; exact rfl)
              (with_reducible refine P7.out.mono ?_)
              rintro e w7 ⟨rfl, vh7, hh7, ht7, hv7⟩
              have F7 := Lib.hid (F6.out.add hh7 ht7 hv7)
              have M7 := Lib.hid (M6.out.folPut ht7 hlow.2.1 (by have := hW0s.out; omega) (by have := hW0s.out; omega) (fun i c o h => by
                cases i with
                | zero => simp at h; omega
                | succ i => simp at h))
              have K7 := Lib.hid (M7.out.heap 1 rfl)
              have hout := HOUT.out
              have hB7 : W0.heap.size ≤ w7.heap.size := by have := F7.out.his.low; have := lt_of_heap F7.out.his.row; omega
              clear hh7 ht7 hv7 P7 F6 M6 K6
              obtain ⟨lo, elo⟩ : ∃ n, n = out.length := ⟨_, rfl⟩
              have HO7 : Hid (Owns w7 W0.heap.size 5 u13 lo (advVals out)) := by show Owns _ _ _ _ _ _; rw [elo]; exact F7.out.out
              rw [← elo] at hout
              have ELO := Lib.hid elo
              clear elo
              obtain ⟨pu, cu, eu, _⟩ := HO7.out.sl
              subst eu
              go_wp2_with (first | ((with_reducible refine wpList_load_rowAs rfl 56 _ rfl (X) ?_ 56 #[.int .i64 ot, .int .i64 ol, .int .i64 ow, .int .i64 orr, .int .i64 oy] (0, 0) _ 5 ?_ Try.underlying56 rfl (by kernel_rfl) ?_ ?_); exact rfl; exact K7.out; exact rfl) | (at_builtin; refine wpList_append_new2 rfl _ _ 24 rfl _ _ 56 rfl W0.heap.size 56 (.agg #[.int .i64 0, .int .i64 0, .int .i64 0, .int .i64 0, .int .i64 0]) 5 40 Try.underlying24 advInfo rfl (by decide) _ _ _ rfl HO7.out rfl rfl (advVals_one1 ⟨ot, ol, ow, orr, oy⟩) (by unfold maxLen; omega) (by omega) hB7 ?_; intro u8 x8 ha8 hg8 hb8 hw8; have HA8 := Lib.hid ha8; have HG8 := Lib.hid hg8; have HB8 := Lib.hid hb8; have HW8 := Lib.hid hw8; clear ha8 hg8 hb8 hw8))
              have hO8 : Owns x8 W0.heap.size 5 u8 (out ++ [(⟨ot, ol, ow, orr, oy⟩ : Adv)]).length (advVals (out ++ [⟨ot, ol, ow, orr, oy⟩])) := by
                rw [List.length_append, advVals_append, ← ELO.out]
                exact HA8.out
              have F8 := F7.out.app hO8 HG8.out HW8.out
              have hM8 : Mem w x8 [(w.heap.size, .cells #[.int .i64 p.mn, .int .i64 p.mx, .int .i64 p.tg, .int .i64 p.tl, .int .i64 p.wi, .int .i64 p.ho] 23)] := by
                have hT8 : Turned (fun k => (Value.slice pu lo cu).ownBlock = some k) w7 x8 := Turned.refl.grown HG8.out (fun k hk _ => hk)
                have := (M7.out.init : Mem w w7 [(w.heap.size, .cells #[.int .i64 p.mn, .int .i64 p.mx, .int .i64 p.tg, .int .i64 p.tl, .int .i64 p.wi, .int .i64 p.ho] 23)])
                exact this.folPut (B := W0.heap.size) (n := w7.heap.size) hT8 (fun k hk => HO7.out.lt k hk) (by have := hW0s.out; omega) (by have := hW0s.out; omega) (fun i c o h => by simp at h)
              exact ⟨⟨k + 1, vs3, vh7, _, by omega, by go_num, rfl, by rw [← EF2.out, HF2.out]; exact F8, hM8⟩, by simp [intOf]; omega⟩
            · have hf2 : f2 = ⟨S, past, out⟩ := HST.out.trans (if_neg he)
              have HF2 := Lib.hid hf2
              have heb : (er == 0) = false := beq_eq_false_iff_ne.2 he
              clear hf2 HST
              go_wp2
              exact ⟨⟨k + 1, vs3, vh, u13, by omega, by go_num, rfl, by rw [← EF2.out, HF2.out]; exact F6.out, M6.out.init⟩, by simp [intOf]; omega⟩
          · have hlow := hS.1.1.low
            have hhX := lt_of_heap hS.1.1.his.row
            have hstN := stab_and hst (stab_mem (w := w) (bs := [(w.heap.size, .cells #[.int .i64 p.mn, .int .i64 p.mx, .int .i64 p.tg, .int .i64 p.tl, .int .i64 p.wi, .int .i64 p.ho] 23), (wd.heap.size, .cells #[.int .i64 0, .int .i64 0, .int .i64 0, .int .i64 0, .int .i64 0] 56)]))
            have X4 := Lib.hid (And.intro (hst _ _ hS (below1 wd (.cells #[.int .i64 0, .int .i64 0, .int .i64 0, .int .i64 0, .int .i64 0] 56))) (hS.1.2.alloc (.cells #[.int .i64 0, .int .i64 0, .int .i64 0, .int .i64 0, .int .i64 0] 56)))
            clear hS
            go_wp2
            refine ⟨_, X4.out, hstN, (by first | exact (fun _ h => h.1) | exact .inr (fun _ h => h.1)), ?_⟩
            obtain ⟨X, hX⟩ : ∃ X, wd.heap.size = X := ⟨_, rfl⟩
            rw [hX] at hstN hlow hhX ⊢
            clear X4 hX hst
            try simp only [act_norm]
            have hst := hstN
            clear hstN
            refine wpAnyE_one 4 rfl (by kernel_rfl) rfl (fun wd hS => ?_)
            have P5 := hist_list hS.1.1.1.his
            simp only [← ELP.out] at P5
            go_wp2_with fail
            (with_reducible refine P5.mono ?_)
            rintro e w5 ⟨p5, c5, rfl, _, hs5, hb5⟩
            have hstN := stab_and (stab_and (stab_fol (B := W0.heap.size) (s := s) (h := h) (r := r) (vs := vs3) (vh := vh) (u := u13) (sa := sa) (ro := ro) (f := ⟨S, past, out⟩)) (stab_mem (w := w) (bs := [(w.heap.size, .cells #[.int .i64 p.mn, .int .i64 p.mx, .int .i64 p.tg, .int .i64 p.tl, .int .i64 p.wi, .int .i64 p.ho] 23), (X, .cells #[.int .i64 0, .int .i64 0, .int .i64 0, .int .i64 0, .int .i64 0] 56)]))) (stab_and (stab_sampsF (q := p4) (l := S)) (stab_advs (q := p5) (l := past)))
            refine ⟨_, ⟨⟨hS.1.1.1.below hb5, hS.2.call hb5⟩, hS.1.2.below hb5, hs5⟩, hstN, (by first | exact (fun _ h => ⟨⟨⟨h.1.1, h.1.2.init⟩, h.2.1⟩, h.1.2⟩) | exact .inr (fun _ h => ⟨⟨⟨h.1.1, h.1.2.init⟩, h.2.1⟩, h.1.2⟩)), ?_⟩
            try simp only [act_norm]
            clear hS hs5 hb5 P5 hst
            have hst := hstN
            clear hstN
            refine wpAnyE_take 5 (v := .tuple #[.agg #[.int .i64 ot, .int .i64 ol, .int .i64 ow, .int .i64 orr, .int .i64 oy], .int .i64 er]) rfl (by kernel_rfl) (by kernel_rfl) (by kernel_rfl) (fun _ _ _ h => h) hst (EffB.run rfl rfl (fun wd hS => ?_)) (.inl (by kernel_rfl)) ?_
            · (go_wp2_with fail; (with_reducible refine (HD.out p4 c4 p5 c5 wd hS.2.1 hS.2.2).mono ?_); rintro e w'' ⟨rfl, hb⟩; exact ⟨rfl, hb⟩)
            simp only [act_norm]
            refine wpAnyE_take 6 rfl (by kernel_rfl) (by kernel_rfl) (by kernel_rfl) (fun _ _ _ h => h) hst (EffB.pure rfl (fun _ => rfl)) (.inr (EffB.pure rfl (fun _ => rfl))) ?_
            simp only [act_norm]
            refine wpAnyE_take 7 (v := .agg #[.int .i64 ot, .int .i64 ol, .int .i64 ow, .int .i64 orr, .int .i64 oy]) rfl (by kernel_rfl) (by kernel_rfl) (by kernel_rfl) (fun _ _ _ h => h) hst (EffB.run rfl rfl (fun wd hS => ?_)) (.inr (EffB.run rfl rfl (fun wd hS => ?_))) ?_
            · (go_wp2; exact ⟨rfl, Below.refl _ _⟩)
            · (go_wp2; exact ⟨rfl, Below.refl _ _⟩)
            simp only [act_norm]
            refine wpAnyE_take 8 (v := .int .i64 er) rfl (by kernel_rfl) (by kernel_rfl) (by kernel_rfl) (fun _ _ _ h => h) hst (EffB.run rfl rfl (fun wd hS => ?_)) (.inr (EffB.run rfl rfl (fun wd hS => ?_))) ?_
            · (go_wp2; exact ⟨rfl, Below.refl _ _⟩)
            · (go_wp2; exact ⟨rfl, Below.refl _ _⟩)
            simp only [act_norm]
            refine wpAnyE_one 10 rfl (by kernel_rfl) rfl (fun wd hS => ?_)
            have hst5 := stab_and (stab_fol (B := W0.heap.size) (s := s) (h := h) (r := r) (vs := vs3) (vh := vh) (u := u13) (sa := sa) (ro := ro) (f := ⟨S, past, out⟩)) (stab_mem (w := w) (bs := [(w.heap.size, .cells #[.int .i64 p.mn, .int .i64 p.mx, .int .i64 p.tg, .int .i64 p.tl, .int .i64 p.wi, .int .i64 p.ho] 23), (X, .cells #[.int .i64 ot, .int .i64 ol, .int .i64 ow, .int .i64 orr, .int .i64 oy] 56)]))
            refine wp_store_row 56 _ _ rfl X #[.int .i64 ot, .int .i64 ol, .int .i64 ow, .int .i64 orr, .int .i64 oy] rfl rfl 56 #[.int .i64 0, .int .i64 0, .int .i64 0, .int .i64 0, .int .i64 0] (hS.1.2.heap 1 rfl) advSize5 rfl (by simp [Value.oneCell']) ?_
            have hF5 : Fol (wd.setRow X #[.int .i64 ot, .int .i64 ol, .int .i64 ow, .int .i64 orr, .int .i64 oy]) W0.heap.size s h r vs3 vh u13 sa ro ⟨S, past, out⟩ := hS.1.1.other hlow (turned_setRow wd X #[.int .i64 ot, .int .i64 ol, .int .i64 ow, .int .i64 orr, .int .i64 oy]) (by omega)
            refine ⟨_, ⟨hF5, hS.1.2.setRow 1 rfl⟩, hst5, .inl (by decide), ?_⟩
            clear hS hF5 hst
            try simp only [act_norm]
            have hst := hst5
            refine wpAnyE_take 11 rfl (by kernel_rfl) (by kernel_rfl) (by kernel_rfl) (fun _ _ _ h => h) hst (EffB.pure rfl (fun _ => rfl)) (.inr (EffB.pure rfl (fun _ => rfl))) ?_
            simp only [act_norm]
            refine wpAnyE_done (by kernel_rfl) (fun wd hS => ?_) _
            have F6 := Lib.hid hS.1
            have M6 := Lib.hid hS.2
            have K6 := Lib.hid (hS.2.heap 1 rfl)
            clear hS hst5 hst
            by_cases he : er = 0
            · subst he
              have hf2 : f2 = ⟨S, Ring.next ro past ⟨ot, ol, ow, orr, oy⟩, out ++ [⟨ot, ol, ow, orr, oy⟩]⟩ := HST.out.trans (if_pos rfl)
              have HF2 := Lib.hid hf2
              have P7 := Lib.hid (hist_add F6.out.his (by have := hlow.2.2; have := F6.out.his.low; have := lt_of_heap F6.out.his.row; omega) ⟨ot, ol, ow, orr, oy⟩)
              clear hf2 HST
              go_wp2_with ((with_reducible refine wpList_load_rowAs rfl 56 _ rfl (X) ?_ 56 #[.int .i64 ot, .int .i64 ol, .int .i64 ow, .int .i64 orr, .int .i64 oy] (0, 0) _ 5 ?_ Try.underlying56 rfl (by kernel_rfl) ?_ ?_); exact rfl; exact K6.out; exact rfl)
              (with_reducible refine P7.out.mono ?_)
              rintro e w7 ⟨rfl, vh7, hh7, ht7, hv7⟩
              have F7 := Lib.hid (F6.out.add hh7 ht7 hv7)
              have M7 := Lib.hid (M6.out.folPut ht7 hlow.2.1 (by have := hW0s.out; omega) (by have := hW0s.out; omega) (fun i c o h => by
                cases i with
                | zero => simp at h; omega
                | succ i => simp at h))
              have K7 := Lib.hid (M7.out.heap 1 rfl)
              have hout := HOUT.out
              have hB7 : W0.heap.size ≤ w7.heap.size := by have := F7.out.his.low; have := lt_of_heap F7.out.his.row; omega
              clear hh7 ht7 hv7 P7 F6 M6 K6
              obtain ⟨lo, elo⟩ : ∃ n, n = out.length := ⟨_, rfl⟩
              have HO7 : Hid (Owns w7 W0.heap.size 5 u13 lo (advVals out)) := by show Owns _ _ _ _ _ _; rw [elo]; exact F7.out.out
              rw [← elo] at hout
              have ELO := Lib.hid elo
              clear elo
              obtain ⟨pu, cu, eu, _⟩ := HO7.out.sl
              subst eu
              go_wp2_with (first | ((with_reducible refine wpList_load_rowAs rfl 56 _ rfl (X) ?_ 56 #[.int .i64 ot, .int .i64 ol, .int .i64 ow, .int .i64 orr, .int .i64 oy] (0, 0) _ 5 ?_ Try.underlying56 rfl (by kernel_rfl) ?_ ?_); exact rfl; exact K7.out; exact rfl) | (at_builtin; refine wpList_append_new2 rfl _ _ 24 rfl _ _ 56 rfl W0.heap.size 56 (.agg #[.int .i64 0, .int .i64 0, .int .i64 0, .int .i64 0, .int .i64 0]) 5 40 Try.underlying24 advInfo rfl (by decide) _ _ _ rfl HO7.out rfl rfl (advVals_one1 ⟨ot, ol, ow, orr, oy⟩) (by unfold maxLen; omega) (by omega) hB7 ?_; intro u8 x8 ha8 hg8 hb8 hw8; have HA8 := Lib.hid ha8; have HG8 := Lib.hid hg8; have HB8 := Lib.hid hb8; have HW8 := Lib.hid hw8; clear ha8 hg8 hb8 hw8))
              have hO8 : Owns x8 W0.heap.size 5 u8 (out ++ [(⟨ot, ol, ow, orr, oy⟩ : Adv)]).length (advVals (out ++ [⟨ot, ol, ow, orr, oy⟩])) := by
                rw [List.length_append, advVals_append, ← ELO.out]
                exact HA8.out
              have F8 := F7.out.app hO8 HG8.out HW8.out
              have hM8 : Mem w x8 [(w.heap.size, .cells #[.int .i64 p.mn, .int .i64 p.mx, .int .i64 p.tg, .int .i64 p.tl, .int .i64 p.wi, .int .i64 p.ho] 23)] := by
                have hT8 : Turned (fun k => (Value.slice pu lo cu).ownBlock = some k) w7 x8 := Turned.refl.grown HG8.out (fun k hk _ => hk)
                have := (M7.out.init : Mem w w7 [(w.heap.size, .cells #[.int .i64 p.mn, .int .i64 p.mx, .int .i64 p.tg, .int .i64 p.tl, .int .i64 p.wi, .int .i64 p.ho] 23)])
                exact this.folPut (B := W0.heap.size) (n := w7.heap.size) hT8 (fun k hk => HO7.out.lt k hk) (by have := hW0s.out; omega) (by have := hW0s.out; omega) (fun i c o h => by simp at h)
              exact ⟨⟨k + 1, vs3, vh7, _, by omega, by go_num, rfl, by rw [← EF2.out, HF2.out]; exact F8, hM8⟩, by simp [intOf]; omega⟩
            · have hf2 : f2 = ⟨S, past, out⟩ := HST.out.trans (if_neg he)
              have HF2 := Lib.hid hf2
              have heb : (er == 0) = false := beq_eq_false_iff_ne.2 he
              clear hf2 HST
              go_wp2
              exact ⟨⟨k + 1, vs3, vh, u13, by omega, by go_num, rfl, by rw [← EF2.out, HF2.out]; exact F6.out, M6.out.init⟩, by simp [intOf]; omega⟩
        · have hlow := hS.1.low
          have hhX := lt_of_heap hS.1.his.row
          have hstN := stab_and hst (stab_mem (w := w) (bs := [(w.heap.size, .cells #[.int .i64 p.mn, .int .i64 p.mx, .int .i64 p.tg, .int .i64 p.tl, .int .i64 p.wi, .int .i64 p.ho] 23), (wd.heap.size, .cells #[.int .i64 0, .int .i64 0, .int .i64 0, .int .i64 0, .int .i64 0] 56)]))
          have X4 := Lib.hid (And.intro (hst _ _ hS (below1 wd (.cells #[.int .i64 0, .int .i64 0, .int .i64 0, .int .i64 0, .int .i64 0] 56))) (hS.2.alloc (.cells #[.int .i64 0, .int .i64 0, .int .i64 0, .int .i64 0, .int .i64 0] 56)))
          clear hS
          go_wp2
          refine ⟨_, X4.out, hstN, (by first | exact (fun _ h => h.1) | exact .inr (fun _ h => h.1)), ?_⟩
          obtain ⟨X, hX⟩ : ∃ X, wd.heap.size = X := ⟨_, rfl⟩
          rw [hX] at hstN hlow hhX ⊢
          clear X4 hX hst
          try simp only [act_norm]
          have hst := hstN
          clear hstN
          refine wpAnyE_one 2 rfl (by kernel_rfl) rfl (fun wd hS => ?_)
          have P4 := ser_list hS.1.1.ser
          simp only [← ELS.out] at P4
          go_wp2_with fail
          (with_reducible refine P4.mono ?_)
          rintro e w4 ⟨p4, c4, rfl, _, hs4, hb4⟩
          have hstN := stab_and hst (stab_sampsF (q := p4) (l := S))
          refine ⟨_, ⟨hst _ _ hS hb4, hs4⟩, hstN, (by first | exact (fun _ h => h.1) | exact .inr (fun _ h => h.1)), ?_⟩
          try simp only [act_norm]
          clear hS hs4 hb4 P4 hst
          have hst := hstN
          clear hstN
          refine wpAnyE_one 4 rfl (by kernel_rfl) rfl (fun wd hS => ?_)
          have P5 := hist_list hS.1.1.1.his
          simp only [← ELP.out] at P5
          go_wp2_with fail
          (with_reducible refine P5.mono ?_)
          rintro e w5 ⟨p5, c5, rfl, _, hs5, hb5⟩
          have hstN := stab_and (stab_and (stab_fol (B := W0.heap.size) (s := s) (h := h) (r := r) (vs := vs3) (vh := vh) (u := u13) (sa := sa) (ro := ro) (f := ⟨S, past, out⟩)) (stab_mem (w := w) (bs := [(w.heap.size, .cells #[.int .i64 p.mn, .int .i64 p.mx, .int .i64 p.tg, .int .i64 p.tl, .int .i64 p.wi, .int .i64 p.ho] 23), (X, .cells #[.int .i64 0, .int .i64 0, .int .i64 0, .int .i64 0, .int .i64 0] 56)]))) (stab_and (stab_sampsF (q := p4) (l := S)) (stab_advs (q := p5) (l := past)))
          refine ⟨_, ⟨⟨hS.1.1.1.below hb5, hS.1.2.call hb5⟩, hS.2.below hb5, hs5⟩, hstN, (by first | exact (fun _ h => ⟨⟨⟨h.1.1, h.1.2.init⟩, h.1.2⟩, h.2.1⟩) | exact .inr (fun _ h => ⟨⟨⟨h.1.1, h.1.2.init⟩, h.1.2⟩, h.2.1⟩)), ?_⟩
          try simp only [act_norm]
          clear hS hs5 hb5 P5 hst
          have hst := hstN
          clear hstN
          refine wpAnyE_take 5 (v := .tuple #[.agg #[.int .i64 ot, .int .i64 ol, .int .i64 ow, .int .i64 orr, .int .i64 oy], .int .i64 er]) rfl (by kernel_rfl) (by kernel_rfl) (by kernel_rfl) (fun _ _ _ h => h) hst (EffB.run rfl rfl (fun wd hS => ?_)) (.inl (by kernel_rfl)) ?_
          · (go_wp2_with fail; (with_reducible refine (HD.out p4 c4 p5 c5 wd hS.2.1 hS.2.2).mono ?_); rintro e w'' ⟨rfl, hb⟩; exact ⟨rfl, hb⟩)
          simp only [act_norm]
          refine wpAnyE_take 6 rfl (by kernel_rfl) (by kernel_rfl) (by kernel_rfl) (fun _ _ _ h => h) hst (EffB.pure rfl (fun _ => rfl)) (.inr (EffB.pure rfl (fun _ => rfl))) ?_
          simp only [act_norm]
          refine wpAnyE_take 7 (v := .agg #[.int .i64 ot, .int .i64 ol, .int .i64 ow, .int .i64 orr, .int .i64 oy]) rfl (by kernel_rfl) (by kernel_rfl) (by kernel_rfl) (fun _ _ _ h => h) hst (EffB.run rfl rfl (fun wd hS => ?_)) (.inr (EffB.run rfl rfl (fun wd hS => ?_))) ?_
          · (go_wp2; exact ⟨rfl, Below.refl _ _⟩)
          · (go_wp2; exact ⟨rfl, Below.refl _ _⟩)
          simp only [act_norm]
          refine wpAnyE_take 8 (v := .int .i64 er) rfl (by kernel_rfl) (by kernel_rfl) (by kernel_rfl) (fun _ _ _ h => h) hst (EffB.run rfl rfl (fun wd hS => ?_)) (.inr (EffB.run rfl rfl (fun wd hS => ?_))) ?_
          · (go_wp2; exact ⟨rfl, Below.refl _ _⟩)
          · (go_wp2; exact ⟨rfl, Below.refl _ _⟩)
          simp only [act_norm]
          refine wpAnyE_one 10 rfl (by kernel_rfl) rfl (fun wd hS => ?_)
          have hst5 := stab_and (stab_fol (B := W0.heap.size) (s := s) (h := h) (r := r) (vs := vs3) (vh := vh) (u := u13) (sa := sa) (ro := ro) (f := ⟨S, past, out⟩)) (stab_mem (w := w) (bs := [(w.heap.size, .cells #[.int .i64 p.mn, .int .i64 p.mx, .int .i64 p.tg, .int .i64 p.tl, .int .i64 p.wi, .int .i64 p.ho] 23), (X, .cells #[.int .i64 ot, .int .i64 ol, .int .i64 ow, .int .i64 orr, .int .i64 oy] 56)]))
          refine wp_store_row 56 _ _ rfl X #[.int .i64 ot, .int .i64 ol, .int .i64 ow, .int .i64 orr, .int .i64 oy] rfl rfl 56 #[.int .i64 0, .int .i64 0, .int .i64 0, .int .i64 0, .int .i64 0] (hS.1.2.heap 1 rfl) advSize5 rfl (by simp [Value.oneCell']) ?_
          have hF5 : Fol (wd.setRow X #[.int .i64 ot, .int .i64 ol, .int .i64 ow, .int .i64 orr, .int .i64 oy]) W0.heap.size s h r vs3 vh u13 sa ro ⟨S, past, out⟩ := hS.1.1.other hlow (turned_setRow wd X #[.int .i64 ot, .int .i64 ol, .int .i64 ow, .int .i64 orr, .int .i64 oy]) (by omega)
          refine ⟨_, ⟨hF5, hS.1.2.setRow 1 rfl⟩, hst5, .inl (by decide), ?_⟩
          clear hS hF5 hst
          try simp only [act_norm]
          have hst := hst5
          refine wpAnyE_take 11 rfl (by kernel_rfl) (by kernel_rfl) (by kernel_rfl) (fun _ _ _ h => h) hst (EffB.pure rfl (fun _ => rfl)) (.inr (EffB.pure rfl (fun _ => rfl))) ?_
          simp only [act_norm]
          refine wpAnyE_done (by kernel_rfl) (fun wd hS => ?_) _
          have F6 := Lib.hid hS.1
          have M6 := Lib.hid hS.2
          have K6 := Lib.hid (hS.2.heap 1 rfl)
          clear hS hst5 hst
          by_cases he : er = 0
          · subst he
            have hf2 : f2 = ⟨S, Ring.next ro past ⟨ot, ol, ow, orr, oy⟩, out ++ [⟨ot, ol, ow, orr, oy⟩]⟩ := HST.out.trans (if_pos rfl)
            have HF2 := Lib.hid hf2
            have P7 := Lib.hid (hist_add F6.out.his (by have := hlow.2.2; have := F6.out.his.low; have := lt_of_heap F6.out.his.row; omega) ⟨ot, ol, ow, orr, oy⟩)
            clear hf2 HST
            go_wp2_with ((with_reducible refine wpList_load_rowAs rfl 56 _ rfl (X) ?_ 56 #[.int .i64 ot, .int .i64 ol, .int .i64 ow, .int .i64 orr, .int .i64 oy] (0, 0) _ 5 ?_ Try.underlying56 rfl (by kernel_rfl) ?_ ?_); exact rfl; exact K6.out; exact rfl)
            (with_reducible refine P7.out.mono ?_)
            rintro e w7 ⟨rfl, vh7, hh7, ht7, hv7⟩
            have F7 := Lib.hid (F6.out.add hh7 ht7 hv7)
            have M7 := Lib.hid (M6.out.folPut ht7 hlow.2.1 (by have := hW0s.out; omega) (by have := hW0s.out; omega) (fun i c o h => by
              cases i with
              | zero => simp at h; omega
              | succ i => simp at h))
            have K7 := Lib.hid (M7.out.heap 1 rfl)
            have hout := HOUT.out
            have hB7 : W0.heap.size ≤ w7.heap.size := by have := F7.out.his.low; have := lt_of_heap F7.out.his.row; omega
            clear hh7 ht7 hv7 P7 F6 M6 K6
            obtain ⟨lo, elo⟩ : ∃ n, n = out.length := ⟨_, rfl⟩
            have HO7 : Hid (Owns w7 W0.heap.size 5 u13 lo (advVals out)) := by show Owns _ _ _ _ _ _; rw [elo]; exact F7.out.out
            rw [← elo] at hout
            have ELO := Lib.hid elo
            clear elo
            obtain ⟨pu, cu, eu, _⟩ := HO7.out.sl
            subst eu
            go_wp2_with (first | ((with_reducible refine wpList_load_rowAs rfl 56 _ rfl (X) ?_ 56 #[.int .i64 ot, .int .i64 ol, .int .i64 ow, .int .i64 orr, .int .i64 oy] (0, 0) _ 5 ?_ Try.underlying56 rfl (by kernel_rfl) ?_ ?_); exact rfl; exact K7.out; exact rfl) | (at_builtin; refine wpList_append_new2 rfl _ _ 24 rfl _ _ 56 rfl W0.heap.size 56 (.agg #[.int .i64 0, .int .i64 0, .int .i64 0, .int .i64 0, .int .i64 0]) 5 40 Try.underlying24 advInfo rfl (by decide) _ _ _ rfl HO7.out rfl rfl (advVals_one1 ⟨ot, ol, ow, orr, oy⟩) (by unfold maxLen; omega) (by omega) hB7 ?_; intro u8 x8 ha8 hg8 hb8 hw8; have HA8 := Lib.hid ha8; have HG8 := Lib.hid hg8; have HB8 := Lib.hid hb8; have HW8 := Lib.hid hw8; clear ha8 hg8 hb8 hw8))
            have hO8 : Owns x8 W0.heap.size 5 u8 (out ++ [(⟨ot, ol, ow, orr, oy⟩ : Adv)]).length (advVals (out ++ [⟨ot, ol, ow, orr, oy⟩])) := by
              rw [List.length_append, advVals_append, ← ELO.out]
              exact HA8.out
            have F8 := F7.out.app hO8 HG8.out HW8.out
            have hM8 : Mem w x8 [(w.heap.size, .cells #[.int .i64 p.mn, .int .i64 p.mx, .int .i64 p.tg, .int .i64 p.tl, .int .i64 p.wi, .int .i64 p.ho] 23)] := by
              have hT8 : Turned (fun k => (Value.slice pu lo cu).ownBlock = some k) w7 x8 := Turned.refl.grown HG8.out (fun k hk _ => hk)
              have := (M7.out.init : Mem w w7 [(w.heap.size, .cells #[.int .i64 p.mn, .int .i64 p.mx, .int .i64 p.tg, .int .i64 p.tl, .int .i64 p.wi, .int .i64 p.ho] 23)])
              exact this.folPut (B := W0.heap.size) (n := w7.heap.size) hT8 (fun k hk => HO7.out.lt k hk) (by have := hW0s.out; omega) (by have := hW0s.out; omega) (fun i c o h => by simp at h)
            exact ⟨⟨k + 1, vs3, vh7, _, by omega, by go_num, rfl, by rw [← EF2.out, HF2.out]; exact F8, hM8⟩, by simp [intOf]; omega⟩
          · have hf2 : f2 = ⟨S, past, out⟩ := HST.out.trans (if_neg he)
            have HF2 := Lib.hid hf2
            have heb : (er == 0) = false := beq_eq_false_iff_ne.2 he
            clear hf2 HST
            go_wp2
            exact ⟨⟨k + 1, vs3, vh, u13, by omega, by go_num, rfl, by rw [← EF2.out, HF2.out]; exact F6.out, M6.out.init⟩, by simp [intOf]; omega⟩
      · have hP := ser_put_bad (s := some ⟨s, 0, none⟩) x hc
        have hcb : (Ser.code x == 0) = false := beq_eq_false_iff_ne.2 hc
        have hfx : f2 = f := by rw [hnx]; unfold FS.step; rw [if_pos hc]
        obtain ⟨cd, ecd⟩ : ∃ c, c = Ser.code x := ⟨_, rfl⟩
        rw [← ecd] at hP hcb hc
        have HP := Lib.hid hP
        have HFX := Lib.hid hfx
        have hcn : (cd != 0) = true := by simpa using hc
        clear hP hnx hfx ecd hgood hgood2 hxin
        go_wp2_with ((with_reducible refine (HP.out _).mono ?_); rintro e w3 ⟨rfl, rfl⟩)
        exact ⟨⟨k + 1, vs, vh, u13, by omega, by go_num, rfl, by rw [← EF2.out, HFX.out]; exact FA.out, MA.out.init⟩, by simp [intOf]; omega⟩
    · obtain rfl : k = n := by omega
      have hfl := FF.out.out
      have HO := Lib.hid (hfl.mono (by have := hW0s.out; omega : w.heap.size ≤ W0.heap.size))
      have HB := Lib.hid MM.out.below
      go_wp2
      go_ret
      exact ⟨_, rfl, HO.out, HB.out⟩
end Go.Proofs.Ytcanbagnehdbiaa
