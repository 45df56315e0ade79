/- Layer 55: what happens at each tick: the reference's. -/
import Derived.Test.YtldhbgefpfmkmaaGreatJFol3
import Derived.Test.YtldhbgefpfmkmaaGreatJLaws55b
namespace Go.Proofs.YtldhbgefpfmkmaaGreat
open Go.ChangeShapes Go.WideShapes Go.ChangeAt Go.RowKit

theorem rowInfoR : (Tryz.prog.info? 40).map (fun i => (i.zero, i.size, i.bytes)) = some (some (.agg #[.int .i64 0, .int .i64 0, .int .i64 0, .int .i64 0, .int .i64 0]), 5, 40) := by kernel_rfl
theorem Ints.at55 {w : World} {p : Option Addr} {l : List Int} (h : Ints .i64 w p l) (k : Nat) (hk : k < l.length) : ∃ b off, p = some ⟨b, off, none⟩ ∧ b < w.heap.size ∧ w.cell? ⟨b, off + k, none⟩ = some (.int .i64 (l[k]?.getD 0)) := by
  obtain ⟨b, off, hp, hb, hc⟩ := Sl.pos h (by omega)
  exact ⟨b, off, hp, hb, hc k (by omega)⟩

set_option maxHeartbeats 8000000 in
set_option maxRecDepth 100000 in
theorem ref55_run (p : Pol) (hp : p.In) (hpo : p.ok = true) (q : Option Addr) (cap n : Nat) (L : List Int) (en : L.length = n) (hb : n ≤ 1024) (hL : ∀ i : Nat, 0 ≤ L[i]?.getD 0 ∧ L[i]?.getD 0 ≤ 9223372036854775807) (w : World) (hs : Ints .i64 w q L) :
    Calls Tryz.prog 10 #[.agg #[.int .i64 p.mn, .int .i64 p.mx, .int .i64 p.tg, .int .i64 p.tl, .int .i64 p.wi, .int .i64 p.ho], .slice q n cap] w fun e w' => ∃ u, e = .returned u ∧ Owns w' w.heap.size 5 u n (advVals (LS.at p (fun i => L[i]?.getD 0) n).rows) ∧ Below w.heap.size w w' := by
  have HS := Lib.hid hs
  have HGOOD := Lib.hid (LS.good_at p hp hpo (fun i => L[i]?.getD 0) hL)
  have HNX := Lib.hid (fun k => show LS.at p (fun i => L[i]?.getD 0) (k + 1) = LS.step p (L[k]?.getD 0) k (LS.at p (fun i => L[i]?.getD 0) k) from rfl)
  have HZ : Hid (LS.at p (fun i => L[i]?.getD 0) 0 = ⟨[], [], p.mn, 0, []⟩) := rfl
  have HLI := Lib.hid hL
  have EN := Lib.hid en
  have HP := Lib.hid hp
  have HPO := Lib.hid hpo
  obtain ⟨F, eF⟩ : ∃ F, F = LS.at p (fun i => L[i]?.getD 0) := ⟨_, rfl⟩
  simp only [← eF] at HGOOD HNX HZ ⊢
  obtain ⟨W0, hW0⟩ : ∃ W, W = w.alloc (.cells #[.int .i64 p.mn, .int .i64 p.mx, .int .i64 p.tg, .int .i64 p.tl, .int .i64 p.wi, .int .i64 p.ho] 23) := ⟨_, rfl⟩
  have M0 : Hid (Mem w W0 [(w.heap.size, .cells #[.int .i64 p.mn, .int .i64 p.mx, .int .i64 p.tg, .int .i64 p.tl, .int .i64 p.wi, .int .i64 p.ho] 23)]) := by show Mem _ _ _; rw [hW0]; exact (Mem.start w).alloc _
  have hW0s : Hid (W0.heap.size = w.heap.size + 1) := by show _ = _; rw [hW0]; simp
  have m0 := M0.out.cell 0 0 rfl rfl
  clear hs en hp hpo hL eF
  go_enter Tryz.func10, Tryz.ntmps10
  go_upto_region 1 with fail
  rw [← hW0]
  clear hW0
  go_wp2
  go_loopw [5, 6, 7, 8, 9, 10] (fun o ha pa rp lf i wr => ∃ (k : Nat) (uo : Value) (qs qp : Option Addr) (cs cp : Nat), k ≤ n ∧ i = .int .i64 (k : Nat) ∧ o = uo ∧ pa = .slice qp (F k).past.length cp ∧ ha = .slice qs (F k).sam.length cs ∧ rp = .int .i64 (F k).repl ∧ lf = .int .i64 (F k).left ∧ Samps wr qs (F k).sam ∧ Advs wr qp (F k).past ∧ (qp = none → (F k).past.length = 0 ∧ cp = 0) ∧ Owns wr W0.heap.size 5 uo k (advVals (F k).rows) ∧ (∀ ad, qs = some ad → uo.ownBlock ≠ some ad.block) ∧ (∀ ad, qp = some ad → uo.ownBlock ≠ some ad.block) ∧ (∀ ad, qp = some ad → ad.block < wr.heap.size) ∧ Mem w wr [(w.heap.size, .cells #[.int .i64 p.mn, .int .i64 p.mx, .int .i64 p.tg, .int .i64 p.tl, .int .i64 p.wi, .int .i64 p.ho] 23)]) (fun _ _ _ _ _ i _ => n - (intOf i).toNat)
  case atStart => exact ⟨0, _, none, none, 0, 0, by omega, rfl, rfl, by rw [HZ.out]; rfl, by rw [HZ.out]; rfl, by rw [HZ.out], by rw [HZ.out], .inl (by rw [HZ.out]; rfl), .inl (by rw [HZ.out]; rfl), fun _ => ⟨by rw [HZ.out]; rfl, rfl⟩, by rw [HZ.out]; exact owns_nil _ _ _, fun _ h => (by cases h), fun _ h => (by cases h), fun _ h => (by cases h), M0.out⟩
  case round =>
    obtain ⟨k, uo, qs, qp, cs, cp, hk, rfl, rfl, rfl, rfl, rfl, rfl, hsa, hpa, hqn, hO, hx1, hx2, hx3, hM⟩ := hrel
    clear M0 HZ m0
    by_cases hlt : k < n
    · have hkl : k < L.length := by have := EN.out; omega
      obtain ⟨bq, off, rfl, hbw, c0⟩ := (Ints.at55 (Sl.below HS.out hM.below) k hkl : _)
      have hg := HGOOD.out k (by omega)
      have hgn := HGOOD.out (k + 1) (by omega)
      have hnx := HNX.out k
      have hc := HLI.out k
      obtain ⟨c, ec⟩ : ∃ c, c = L[k]?.getD 0 := ⟨_, rfl⟩
      rw [← ec] at c0 hnx hc
      obtain ⟨f2, ef2⟩ : ∃ f, f = F (k + 1) := ⟨_, rfl⟩
      have EF2 := Lib.hid ef2
      rw [← ef2] at hnx hgn
      obtain ⟨f, ef⟩ : ∃ f, f = F k := ⟨_, rfl⟩
      rw [← ef] at hg hnx hsa hpa hqn hO ⊢
      have hall := LS.all_in (f := f) hg.l0 hc.1
      have hsv := LS.serves_in (f := f) (p := p) (c := c) HPO.out hg.r1 hg.l0 hc.1
      have hsd : LS.serves p c f = min (LS.all c f) (Sat.clamp (f.repl * p.tg)) := rfl
      have hcode : Ser.code ⟨(k : Int), LS.all c f⟩ = 0 := by unfold Ser.code; rw [if_neg (by show ¬ (k : Int) < 0; omega), if_neg (by show ¬ LS.all c f < 0; omega)]
      have hq : (LS.sam' c k f).length ≠ 0 := Ser.put_pos _ (by omega) _
      obtain ⟨_, eer⟩ := Dec.of_some (l := LS.sam' c k f) (past := f.past) HPO.out hq
      have hfi := Pol.fine HPO.out
      have HADD := Lib.hid (ref_add f.left c (by unfold I64; have := hg.l0; have := hg.l1; omega) (by unfold I64; omega))
      have HMUL := Lib.hid (ref_mul f.repl p.tg (by have h1 := hg.r1; have h2 := hg.r2; unfold I64; have := hfi.1; have := hfi.2.2.1; omega) HP.out.2.2.1)
      have hlen2 : (LS.sam' c k f).length ≤ 64 := by have := hgn.len; rw [hnx] at this; exact this
      have hin2 : ∀ a ∈ LS.sam' c k f, a.In := by have := hgn.In; rw [hnx] at this; exact this
      have hD := fun (sp : Option Addr) (sc : Nat) (qq : Option Addr) (qc : Nat) (W : World) (g1 : Samps W sp (LS.sam' c k f)) (g2 : Advs W qq f.past) => ref16_of p HP.out sp sc (LS.sam' c k f) hin2 (by omega) qq qc f.past hg.pastIn (by have := hg.past; omega) (LS.adv p c k f) rfl W g1 g2
      simp only [eer] at hD
      have hP1 := fun (c2 : Nat) (W : World) (g : Samps W qs f.sam) => ref08_put qs f.sam.length c2 f.sam rfl (by have := hg.len; omega) hg.srt 64 ⟨(k : Int), LS.all c f⟩ W g
      have hP2 := fun (W : World) (g : Advs W qp f.past) => ref14_put qp f.past.length cp f.past rfl (by have := hg.past; omega) hqn 16 (LS.adv p c k f) W g
      have hPN := Adv.put_next (room := 16) (by omega) hg.past (LS.adv p c k f)
      simp only [hPN] at hP2
      rw [show ((64 : Nat) : Int) = 64 from rfl] at hP1
      rw [show ((16 : Nat) : Int) = 16 from rfl] at hP2
      have hse : LS.sam' c k f = Ser.put f.sam 64 ⟨(k : Int), LS.all c f⟩ := rfl
      simp only [← hse] at hP1
      have hst2 : f2 = ⟨LS.sam' c k f, Ring.next 16 f.past (LS.adv p c k f), (LS.adv p c k f).repl, LS.all c f - LS.serves p c f, f.rows ++ [⟨k, c, f.repl, LS.serves p c f, LS.all c f - LS.serves p c f⟩]⟩ := hnx
      have hrows := hg.rows
      clear hnx hgn hse hPN hq eer hfi hlen2 hin2 hqn hg
      have ea : LS.all c f = Sat.clamp (f.left + c) := rfl
      rw [← ea] at HADD
      clear ea
      obtain ⟨S, eS⟩ : ∃ S, S = LS.sam' c k f := ⟨_, rfl⟩
      obtain ⟨o, eo⟩ : ∃ o, o = LS.adv p c k f := ⟨_, rfl⟩
      obtain ⟨a, ea⟩ : ∃ a, a = LS.all c f := ⟨_, rfl⟩
      obtain ⟨sv, esv⟩ : ∃ a, a = LS.serves p c f := ⟨_, rfl⟩
      simp only [← eS] at hD hP1 hst2
      simp only [← eo] at hD hP2 hst2
      simp only [← ea] at hall hsv hsd hcode HADD hP1 hst2
      simp only [← esv] at hsv hsd hst2
      clear eS eo ea esv hcode
      obtain ⟨sam, past, rp, lf, rows⟩ := f
      simp only at hD hP1 hP2 hst2 hsd hrows hsa hpa hO HADD HMUL ⊢
      obtain ⟨m, em⟩ : ∃ a, a = Sat.clamp (rp * p.tg) := ⟨_, rfl⟩
      rw [← em] at hsd HMUL
      obtain ⟨l2, el2⟩ : ∃ x, a - sv = x := ⟨_, rfl⟩
      rw [el2] at hst2
      obtain ⟨ot, ol, ow, orr, oy⟩ := o
      simp only at hD hP2 hst2
      obtain ⟨ls, els⟩ : ∃ n, n = S.length := ⟨_, rfl⟩
      obtain ⟨lp, elp⟩ : ∃ n, n = past.length := ⟨_, rfl⟩
      obtain ⟨lm, elm⟩ : ∃ n, n = sam.length := ⟨_, rfl⟩
      obtain ⟨PN, epn⟩ : ∃ x, x = Ring.next 16 past ⟨ot, ol, ow, orr, oy⟩ := ⟨_, rfl⟩
      obtain ⟨lpn, elpn⟩ : ∃ n, n = PN.length := ⟨_, rfl⟩
      simp only [← els] at hP1 hD
      simp only [← elp] at hD hP2 ⊢
      simp only [← elm] at hP1 ⊢
      simp only [← epn] at hP2 hst2
      simp only [← elpn] at hP2
      have ELS := Lib.hid els
      have ELPN := Lib.hid elpn
      have HD := Lib.hid hD
      have HP1 := Lib.hid hP1
      have HP2 := Lib.hid hP2
      have HST := Lib.hid hst2
      have HSV := Lib.hid hsd
      have MM := Lib.hid hM
      have hBz : W0.heap.size ≤ wr.heap.size := by have := hM.lt (i := 0) rfl; have := hW0s.out; omega
      have mg := hM.cell 0 2 rfl rfl
      have hkn : (k : Int) < n := by omega
      have hmxl : k + 1 ≤ maxLen := by unfold maxLen; omega
      have hbyt : (k + 1) * 40 ≤ 140737488355328 := by omega
      have O1 := Lib.hid hO
      have SA := Lib.hid hsa
      have PA := Lib.hid hpa
      have X1 := Lib.hid hx1
      have X2 := Lib.hid hx2
      have X3 := Lib.hid hx3
      have hh1 : (sv = a ∧ a < m) ∨ (sv = m ∧ ¬ a < m) ∨ (sv = a ∧ a = m) := by omega
      have hh : (sv = a ∧ a < m) ∨ (sv = m ∧ ¬ a < m) := by omega
      obtain ⟨pu, cu, eu, _⟩ := hO.sl
      subst eu
      clear hD hP1 hP2 hst2 hsd hM hO hsa hpa hx1 hx2 hx3 em els elp elm epn elpn ef ef2 ec hh1
      rcases hh with ⟨e1, hm⟩ | ⟨e1, hm⟩
      · subst e1
        obtain rfl : l2 = 0 := by omega
        clear el2
        go_wp2_with (first | ((with_reducible refine (HADD.out _).mono ?_); rintro e w1 ⟨rfl, rfl⟩) | ((with_reducible refine (HMUL.out _).mono ?_); rintro e w1 ⟨rfl, rfl⟩) | (at_builtin; refine wpList_append_new2 rfl _ _ 36 rfl _ _ 40 rfl W0.heap.size 40 (.agg #[.int .i64 0, .int .i64 0, .int .i64 0, .int .i64 0, .int .i64 0]) 5 40 Tryz.underlying36 rowInfoR rfl (by decide) (.slice pu k cu) k (advVals rows) rfl O1.out rfl rfl (advVals_one1 ⟨k, c, rp, sv, 0⟩) hmxl hbyt hBz ?_; intro u8 x8 ha8 hg8 hb8 hw8; have HA8 := Lib.hid ha8; have HG8 := Lib.hid hg8; have HB8 := Lib.hid hb8; have HW8 := Lib.hid hw8; clear ha8 hg8 hb8 hw8))
        have hT8 : Turned (fun y => (Value.slice pu k cu).ownBlock = some y) wr x8 := Turned.refl.grown HG8.out (fun y hy _ => hy)
        have SA8 := Lib.hid (SA.out.turnedF hT8 (fun ad had e => X1.out ad had e))
        have PA8 := Lib.hid (PA.out.turnedF hT8 (fun ad had e => X2.out ad had e))
        have M8 := Lib.hid (MM.out.folPut (B := W0.heap.size) (n := wr.heap.size) hT8 (fun y hy => O1.out.lt y hy) (by have := hW0s.out; omega) (by have := hW0s.out; omega) (fun i c o h => by simp at h))
        have O8 : Hid (Owns x8 W0.heap.size 5 u8 (k + 1) (advVals (rows ++ [(⟨k, c, rp, sv, 0⟩ : Adv)]))) := by show Owns _ _ _ _ _ _; rw [advVals_append]; exact HA8.out
        have Y2 : Hid (∀ ad, qp = some ad → u8.ownBlock ≠ some ad.block) := fun ad had e => by
          rcases HW8.out with h | h
          · exact X2.out ad had (h ▸ e)
          · have h1 := h _ e
            have h2 := X3.out ad had
            omega
        clear hT8 HA8 HG8 HB8 HW8 SA PA MM O1 X1 X2 X3
        go_wp2_with fail
        (with_reducible refine (HP1.out cs x8 SA8.out).mono ?_)
        rintro e w3 ⟨q3, d3, rfl, hd3, hs3, hq3, hb3⟩
        have M3 := Lib.hid (M8.out.call hb3)
        have PA3 := Lib.hid (PA8.out.below hb3)
        have O3 := Lib.hid (O8.out.below hb3)
        have SA3 := Lib.hid hs3
        have Y1 : Hid (∀ ad, q3 = some ad → u8.ownBlock ≠ some ad.block) := fun ad had e => by
          have h1 := (hq3 ad had).1
          have h2 := (O8.out.lt _ e).2
          omega
        have K3 := Lib.hid (M3.out.heap 0 rfl)
        clear hs3 hq3 hb3 SA8 PA8 M8 O8
        go_wp2_with ((with_reducible refine wpList_load_rowAs rfl 23 _ rfl (w.heap.size) ?_ 23 #[.int .i64 p.mn, .int .i64 p.mx, .int .i64 p.tg, .int .i64 p.tl, .int .i64 p.wi, .int .i64 p.ho] (0, 0) _ 6 ?_ Tryz.underlying23 rfl (by kernel_rfl) ?_ ?_); exact rfl; exact K3.out; exact rfl)
        (with_reducible refine (HD.out q3 d3 qp cp w3 SA3.out PA3.out).mono ?_)
        rintro e w4 ⟨rfl, hb4⟩
        have hb4' := hb4.trans ((below1 w4 (.cells #[.int .i64 ot, .int .i64 ol, .int .i64 ow, .int .i64 orr, .int .i64 oy] 66)).mono hb4.size)
        have M4 := Lib.hid ((M3.out.call hb4).alloc (.cells #[.int .i64 ot, .int .i64 ol, .int .i64 ow, .int .i64 orr, .int .i64 oy] 66))
        have SA4 := Lib.hid (SA3.out.below hb4')
        have PA4 := Lib.hid (PA3.out.below hb4')
        have O4 := Lib.hid (O3.out.below hb4')
        have K4 := Lib.hid (M4.out.heap 1 rfl)
        clear hb4 hb4' K3 M3 SA3 PA3 O3
        go_wp2_with (first | ((with_reducible refine wpList_store_rowAs rfl 66 _ _ rfl (w4.heap.size) #[.int .i64 ot, .int .i64 ol, .int .i64 ow, .int .i64 orr, .int .i64 oy] ?_ ?_ 66 #[.int .i64 0, .int .i64 0, .int .i64 0, .int .i64 0, .int .i64 0] 5 ?_ (by kernel_rfl) rfl rfl (by simp [Value.oneCell']) ?_); exact rfl; exact rfl; exact (heap_alloc_at _ _ _ rfl); (first | rw [row_1_0] | rw [row_2_0] | rw [row_2_1] | rw [row_3_0] | rw [row_3_1] | rw [row_3_2] | rw [row_4_0] | rw [row_4_1] | rw [row_4_2] | rw [row_4_3] | rw [row_5_0] | rw [row_5_1] | rw [row_5_2] | rw [row_5_3] | rw [row_5_4] | rw [row_6_0] | rw [row_6_1] | rw [row_6_2] | rw [row_6_3] | rw [row_6_4] | rw [row_6_5] | simp only [setRow_alloc_past, setRow_alloc_at, World.size_alloc, Nat.add_assoc, Nat.reduceAdd, Nat.lt_add_right_iff_pos, Nat.add_lt_add_iff_left, Nat.reduceLT, Nat.zero_lt_succ, Nat.lt_add_one])) | ((with_reducible refine wpList_load_rowAs rfl 66 _ rfl (w4.heap.size) ?_ 66 #[.int .i64 ot, .int .i64 ol, .int .i64 ow, .int .i64 orr, .int .i64 oy] (0, 0) _ 5 ?_ Tryz.underlying66 rfl (by kernel_rfl) ?_ ?_); exact rfl; exact K4.out; exact rfl))
        (with_reducible refine (HP2.out _ PA4.out).mono ?_)
        rintro e w7 ⟨q7, d7, rfl, hd7, hs7, hq7, hb7⟩
        have M7 := Lib.hid (M4.out.call hb7)
        have SA7 := Lib.hid (SA4.out.below hb7)
        have O7 := Lib.hid (O4.out.below hb7)
        have PA7 := Lib.hid hs7.1
        have Q7 := Lib.hid hq7
        have Y7 : Hid (∀ ad, q7 = some ad → u8.ownBlock ≠ some ad.block) := fun ad had e => by
          have h1 := (hs7.2 ad had).1
          have h2 := (O4.out.lt _ e).2
          omega
        have HQ7 : Hid (∀ ad, q7 = some ad → ad.block < w7.heap.size) := fun ad had => (hs7.2 ad had).2
        have c3 := M7.out.cell 1 3 rfl rfl
        clear hs7 hq7 hb7 M4 SA4 PA4 O4 K4
        go_wp2
        exact ⟨⟨k + 1, u8, q3, q7, d3, d7, by omega, by go_num, rfl, by rw [← EF2.out, HST.out, ← ELPN.out], by rw [← EF2.out, HST.out, ← ELS.out], by rw [← EF2.out, HST.out], by rw [← EF2.out, HST.out], by rw [← EF2.out, HST.out]; exact SA7.out, by rw [← EF2.out, HST.out]; exact PA7.out, by rw [← EF2.out, HST.out]; show q7 = none → PN.length = 0 ∧ d7 = 0; rw [← ELPN.out]; exact Q7.out, by rw [← EF2.out, HST.out]; exact O7.out, Y1.out, Y7.out, HQ7.out, M7.out.init⟩, by simp [intOf]; omega⟩
      · subst e1
        go_wp2_with (first | ((with_reducible refine (HADD.out _).mono ?_); rintro e w1 ⟨rfl, rfl⟩) | ((with_reducible refine (HMUL.out _).mono ?_); rintro e w1 ⟨rfl, rfl⟩) | (at_builtin; refine wpList_append_new2 rfl _ _ 36 rfl _ _ 40 rfl W0.heap.size 40 (.agg #[.int .i64 0, .int .i64 0, .int .i64 0, .int .i64 0, .int .i64 0]) 5 40 Tryz.underlying36 rowInfoR rfl (by decide) (.slice pu k cu) k (advVals rows) rfl O1.out rfl rfl (advVals_one1 ⟨k, c, rp, sv, l2⟩) hmxl hbyt hBz ?_; intro u8 x8 ha8 hg8 hb8 hw8; have HA8 := Lib.hid ha8; have HG8 := Lib.hid hg8; have HB8 := Lib.hid hb8; have HW8 := Lib.hid hw8; clear ha8 hg8 hb8 hw8))
        have hT8 : Turned (fun y => (Value.slice pu k cu).ownBlock = some y) wr x8 := Turned.refl.grown HG8.out (fun y hy _ => hy)
        have SA8 := Lib.hid (SA.out.turnedF hT8 (fun ad had e => X1.out ad had e))
        have PA8 := Lib.hid (PA.out.turnedF hT8 (fun ad had e => X2.out ad had e))
        have M8 := Lib.hid (MM.out.folPut (B := W0.heap.size) (n := wr.heap.size) hT8 (fun y hy => O1.out.lt y hy) (by have := hW0s.out; omega) (by have := hW0s.out; omega) (fun i c o h => by simp at h))
        have O8 : Hid (Owns x8 W0.heap.size 5 u8 (k + 1) (advVals (rows ++ [(⟨k, c, rp, sv, l2⟩ : Adv)]))) := by show Owns _ _ _ _ _ _; rw [advVals_append]; exact HA8.out
        have Y2 : Hid (∀ ad, qp = some ad → u8.ownBlock ≠ some ad.block) := fun ad had e => by
          rcases HW8.out with h | h
          · exact X2.out ad had (h ▸ e)
          · have h1 := h _ e
            have h2 := X3.out ad had
            omega
        clear hT8 HA8 HG8 HB8 HW8 SA PA MM O1 X1 X2 X3
        go_wp2_with fail
        (with_reducible refine (HP1.out cs x8 SA8.out).mono ?_)
        rintro e w3 ⟨q3, d3, rfl, hd3, hs3, hq3, hb3⟩
        have M3 := Lib.hid (M8.out.call hb3)
        have PA3 := Lib.hid (PA8.out.below hb3)
        have O3 := Lib.hid (O8.out.below hb3)
        have SA3 := Lib.hid hs3
        have Y1 : Hid (∀ ad, q3 = some ad → u8.ownBlock ≠ some ad.block) := fun ad had e => by
          have h1 := (hq3 ad had).1
          have h2 := (O8.out.lt _ e).2
          omega
        have K3 := Lib.hid (M3.out.heap 0 rfl)
        clear hs3 hq3 hb3 SA8 PA8 M8 O8
        go_wp2_with ((with_reducible refine wpList_load_rowAs rfl 23 _ rfl (w.heap.size) ?_ 23 #[.int .i64 p.mn, .int .i64 p.mx, .int .i64 p.tg, .int .i64 p.tl, .int .i64 p.wi, .int .i64 p.ho] (0, 0) _ 6 ?_ Tryz.underlying23 rfl (by kernel_rfl) ?_ ?_); exact rfl; exact K3.out; exact rfl)
        (with_reducible refine (HD.out q3 d3 qp cp w3 SA3.out PA3.out).mono ?_)
        rintro e w4 ⟨rfl, hb4⟩
        have hb4' := hb4.trans ((below1 w4 (.cells #[.int .i64 ot, .int .i64 ol, .int .i64 ow, .int .i64 orr, .int .i64 oy] 66)).mono hb4.size)
        have M4 := Lib.hid ((M3.out.call hb4).alloc (.cells #[.int .i64 ot, .int .i64 ol, .int .i64 ow, .int .i64 orr, .int .i64 oy] 66))
        have SA4 := Lib.hid (SA3.out.below hb4')
        have PA4 := Lib.hid (PA3.out.below hb4')
        have O4 := Lib.hid (O3.out.below hb4')
        have K4 := Lib.hid (M4.out.heap 1 rfl)
        clear hb4 hb4' K3 M3 SA3 PA3 O3
        go_wp2_with (first | ((with_reducible refine wpList_store_rowAs rfl 66 _ _ rfl (w4.heap.size) #[.int .i64 ot, .int .i64 ol, .int .i64 ow, .int .i64 orr, .int .i64 oy] ?_ ?_ 66 #[.int .i64 0, .int .i64 0, .int .i64 0, .int .i64 0, .int .i64 0] 5 ?_ (by kernel_rfl) rfl rfl (by simp [Value.oneCell']) ?_); exact rfl; exact rfl; exact (heap_alloc_at _ _ _ rfl); (first | rw [row_1_0] | rw [row_2_0] | rw [row_2_1] | rw [row_3_0] | rw [row_3_1] | rw [row_3_2] | rw [row_4_0] | rw [row_4_1] | rw [row_4_2] | rw [row_4_3] | rw [row_5_0] | rw [row_5_1] | rw [row_5_2] | rw [row_5_3] | rw [row_5_4] | rw [row_6_0] | rw [row_6_1] | rw [row_6_2] | rw [row_6_3] | rw [row_6_4] | rw [row_6_5] | simp only [setRow_alloc_past, setRow_alloc_at, World.size_alloc, Nat.add_assoc, Nat.reduceAdd, Nat.lt_add_right_iff_pos, Nat.add_lt_add_iff_left, Nat.reduceLT, Nat.zero_lt_succ, Nat.lt_add_one])) | ((with_reducible refine wpList_load_rowAs rfl 66 _ rfl (w4.heap.size) ?_ 66 #[.int .i64 ot, .int .i64 ol, .int .i64 ow, .int .i64 orr, .int .i64 oy] (0, 0) _ 5 ?_ Tryz.underlying66 rfl (by kernel_rfl) ?_ ?_); exact rfl; exact K4.out; exact rfl))
        (with_reducible refine (HP2.out _ PA4.out).mono ?_)
        rintro e w7 ⟨q7, d7, rfl, hd7, hs7, hq7, hb7⟩
        have M7 := Lib.hid (M4.out.call hb7)
        have SA7 := Lib.hid (SA4.out.below hb7)
        have O7 := Lib.hid (O4.out.below hb7)
        have PA7 := Lib.hid hs7.1
        have Q7 := Lib.hid hq7
        have Y7 : Hid (∀ ad, q7 = some ad → u8.ownBlock ≠ some ad.block) := fun ad had e => by
          have h1 := (hs7.2 ad had).1
          have h2 := (O4.out.lt _ e).2
          omega
        have HQ7 : Hid (∀ ad, q7 = some ad → ad.block < w7.heap.size) := fun ad had => (hs7.2 ad had).2
        have c3 := M7.out.cell 1 3 rfl rfl
        clear hs7 hq7 hb7 M4 SA4 PA4 O4 K4
        go_wp2
        exact ⟨⟨k + 1, u8, q3, q7, d3, d7, by omega, by go_num, rfl, by rw [← EF2.out, HST.out, ← ELPN.out], by rw [← EF2.out, HST.out, ← ELS.out], by rw [← EF2.out, HST.out], by rw [← EF2.out, HST.out], by rw [← EF2.out, HST.out]; exact SA7.out, by rw [← EF2.out, HST.out]; exact PA7.out, by rw [← EF2.out, HST.out]; show q7 = none → PN.length = 0 ∧ d7 = 0; rw [← ELPN.out]; exact Q7.out, by rw [← EF2.out, HST.out]; exact O7.out, Y1.out, Y7.out, HQ7.out, M7.out.init⟩, by simp [intOf]; omega⟩
    · obtain rfl : k = n := by omega
      have HO := Lib.hid (hO.mono (by have := hW0s.out; omega : w.heap.size ≤ W0.heap.size))
      have HB := Lib.hid hM.below
      clear hsa hpa hqn hO hx1 hx2 hx3 hM
      go_wp2
      go_ret
      exact ⟨_, rfl, HO.out, HB.out⟩
end Go.Proofs.YtldhbgefpfmkmaaGreat
