/- Layer 55: the law, walked: what came is what was served, and what is left. -/
import Derived.Test.YtldhbgefpfmkmaaJLaws55b
import Derived.Test.YtldhbgefpfmkmaaJLoopK
namespace Go.Proofs.Ytldhbgefpfmkmaa
open Go.ChangeShapes Go.WideShapes Go.ChangeAt Go.RowKit

section
variable (p : Pol) (hp : p.In) (ticks : Int) (ht : I64 ticks) (q : Option Addr) (cap : Nat) (l : List Adv) (hl : ∀ a ∈ l, a.In) (hb : l.length ≤ 9223372036854775807) (w : World) (hs : Advs w q l)
set_option maxHeartbeats 1000000 in
set_option maxRecDepth 100000 in
theorem loopKeeps_out (n : Nat) (hb : n ≤ 9223372036854775807) (h : 6 < n ∨ ticks < 0 ∨ 40 < ticks) :
    Calls Try.prog 12 #[.agg #[.int .i64 p.mn, .int .i64 p.mx, .int .i64 p.tg, .int .i64 p.tl, .int .i64 p.wi, .int .i64 p.ho], .int .i64 ticks, .slice q n cap] w fun e w' => e = .returned (.bool true) ∧ Below w.heap.size w w' := by
  by_cases h1 : 6 < n
  · have d1 : decide ((6 : Int) < n) = true := decide_eq_true (by omega)
    clear h
    go_enter Try.func12, Try.ntmps12
    go_wp2_with fail
    (with_reducible refine (awake55 _).mono ?_)
    rintro e w1 ⟨rfl, hb1⟩
    have HB := Lib.hid ((below1 w (.cells #[.int .i64 p.mn, .int .i64 p.mx, .int .i64 p.tg, .int .i64 p.tl, .int .i64 p.wi, .int .i64 p.ho] 54)).trans (hb1.mono (below1 w _).size))
    clear hb1
    go_wp2
    go_ret
    exact ⟨rfl, HB.out⟩
  have d1 : decide ((6 : Int) < n) = false := decide_eq_false (by omega)
  by_cases h2 : ticks < 0
  · clear h
    go_enter Try.func12, Try.ntmps12
    go_wp2_with fail
    (with_reducible refine (awake55 _).mono ?_)
    rintro e w1 ⟨rfl, hb1⟩
    have HB := Lib.hid ((below1 w (.cells #[.int .i64 p.mn, .int .i64 p.mx, .int .i64 p.tg, .int .i64 p.tl, .int .i64 p.wi, .int .i64 p.ho] 54)).trans (hb1.mono (below1 w _).size))
    clear hb1
    go_wp2
    go_ret
    exact ⟨rfl, HB.out⟩
  have h3 : 40 < ticks := by omega
  clear h
  go_enter Try.func12, Try.ntmps12
  go_wp2_with fail
  (with_reducible refine (awake55 _).mono ?_)
  rintro e w1 ⟨rfl, hb1⟩
  have HB := Lib.hid ((below1 w (.cells #[.int .i64 p.mn, .int .i64 p.mx, .int .i64 p.tg, .int .i64 p.tl, .int .i64 p.wi, .int .i64 p.ho] 54)).trans (hb1.mono (below1 w _).size))
  clear hb1
  go_wp2
  go_ret
  exact ⟨rfl, HB.out⟩

include hs in
set_option maxHeartbeats 1000000 in
set_option maxRecDepth 100000 in
theorem loopKeeps_bad (n : Nat) (en : l.length = n) (h1 : n ≤ 6) (h2 : 0 ≤ ticks) (h3 : ticks ≤ 40) (he : Lp.err p ticks l ≠ 0) :
    Calls Try.prog 12 #[.agg #[.int .i64 p.mn, .int .i64 p.mx, .int .i64 p.tg, .int .i64 p.tl, .int .i64 p.wi, .int .i64 p.ho], .int .i64 ticks, .slice q n cap] w fun e w' => e = .returned (.bool true) ∧ Below w.heap.size w w' := by
  have d2 : decide (ticks < 0) = false := decide_eq_false (by omega)
  have d3 : decide (40 < ticks) = false := decide_eq_false (by omega)
  have d1 : decide ((6 : Int) < n) = false := decide_eq_false (by omega)
  have C := Lib.hid (fun W h => ref55_check p ticks q cap n l en (by omega) W h)
  obtain ⟨er, eer⟩ : ∃ x, x = Lp.err p ticks l := ⟨_, rfl⟩
  rw [← eer] at C he
  have heb : (er == 0) = false := beq_eq_false_iff_ne.2 he
  have HS := Lib.hid hs
  clear eer he hs en
  go_enter Try.func12, Try.ntmps12
  go_wp2_with fail
  (with_reducible refine (awake55 _).mono ?_)
  rintro e w1 ⟨rfl, hb1⟩
  have M1 := Lib.hid (((Mem.start w).alloc (.cells #[.int .i64 p.mn, .int .i64 p.mx, .int .i64 p.tg, .int .i64 p.tl, .int .i64 p.wi, .int .i64 p.ho] 54)).call hb1)
  have K1 := Lib.hid (M1.out.heap 0 rfl)
  clear hb1
  go_wp2_with ((with_reducible refine wpList_load_rowG ?_ 54 _ rfl (w.heap.size) ?_ 54 #[.int .i64 p.mn, .int .i64 p.mx, .int .i64 p.tg, .int .i64 p.tl, .int .i64 p.wi, .int .i64 p.ho] (0, 0) _ 6 ?_ Try.underlying54 rfl (by kernel_rfl) ?_ ?_); kernel_rfl; exact rfl; exact K1.out; exact rfl)
  (with_reducible refine (C.out _ (HS.out.below M1.out.below)).mono ?_)
  rintro e w2 ⟨rfl, hb2⟩
  have HB := Lib.hid (M1.out.call hb2).below
  clear hb2
  go_wp2
  go_ret
  exact ⟨rfl, HB.out⟩

include hp hl hs in
set_option maxHeartbeats 4000000 in
set_option maxRecDepth 100000 in
theorem loopKeeps_good (n T : Nat) (en : l.length = n) (h1 : n ≤ 6) (h3 : T ≤ 40) (he : Lp.err p T l = 0) :
    Calls Try.prog 12 #[.agg #[.int .i64 p.mn, .int .i64 p.mx, .int .i64 p.tg, .int .i64 p.tl, .int .i64 p.wi, .int .i64 p.ho], .int .i64 T, .slice q n cap] w fun e w' => e = .returned (.bool true) ∧ Below w.heap.size w w' := by
  obtain ⟨hok, hz, _, _⟩ := Lp.err_ok he
  have hC : ∀ i : Nat, 0 ≤ Shp.sum l i ∧ Shp.sum l i ≤ Lp.most l := fun i => ⟨(Shp.sum_in l i).1, Lp.sum_most l hz i⟩
  have hgood := LS.good_at p hp hok (fun i => Shp.sum l i) (fun i => Shp.sum_in l i) T (by omega)
  have HK := Lib.hid (fun hM => Lp.keeps p hp hok (fun i => Shp.sum l i) (Lp.most l) hC hM T h3 T (Nat.le_refl _))
  have HN := Lib.hid (fun hm => Lp.none_long p hp hok (fun i => Shp.sum l i) (Lp.most l) hC (Sat.sum_I64 _).2 hm T h3)
  have HN2 := Lib.hid (fun hm => Lp.none_left p hp hok (fun i => Shp.sum l i) (Lp.most l) hC (Sat.sum_I64 _).2 hm T (by omega))
  have C := fun W h => ref55_check p T q cap n l en (by omega) W h
  rw [he] at C
  have C := Lib.hid C
  have R := Lib.hid (fun (q2 : Option Addr) (c2 : Nat) W h => loop_run_good p hp T (by omega) q2 c2 n l hl en (by omega) he W h)
  have SH := Lib.hid (fun W h => law55_shapes q cap n l en (by omega) W h)
  have hfi := Pol.fine hok
  have HMS := Lib.hid (Lp.most_step l)
  have HM64 := Lib.hid (fun k => Sat.sum_I64 ((l.map fun s => s.want).take k))
  have HME : Hid (Sat.sum ((l.map fun s => s.want).take n) = Lp.most l) := by show Sat.sum _ = Sat.sum _; rw [List.take_of_length_le (by rw [List.length_map]; omega)]
  obtain ⟨mo, emo⟩ : ∃ f : Nat → Int, f = fun k => Sat.sum ((l.map fun s => s.want).take k) := ⟨_, rfl⟩
  have HMS2 : Hid (∀ k, k < l.length → mo (k + 1) = Sat.clamp (mo k + (l[k]?.getD default).want)) := by rw [emo]; exact HMS.out
  have HM642 : Hid (∀ k, I64 (mo k)) := by rw [emo]; exact HM64.out
  have HME2 : Hid (mo n = Lp.most l) := by rw [emo]; exact HME.out
  have HM0 : Hid (mo 0 = 0) := by rw [emo]; rfl
  obtain ⟨rows, erows⟩ : ∃ x, x = (LS.at p (fun i => Shp.sum l i) T).rows := ⟨_, rfl⟩
  obtain ⟨lf, elf⟩ : ∃ x, x = (LS.at p (fun i => Shp.sum l i) T).left := ⟨_, rfl⟩
  obtain ⟨M, eM⟩ : ∃ x, x = Lp.most l := ⟨_, rfl⟩
  have hrlen := hgood.rows
  have hrin := hgood.rowsIn
  simp only [← erows] at HK HN R hrlen hrin
  simp only [← elf] at HK HN2
  simp only [← eM] at HK HN HN2 HME2
  have hm64 : I64 M := eM ▸ Sat.sum_I64 _
  have hm0 : 0 ≤ M := by have := hC 0; omega
  have LG := Lib.hid (fun (p' : Option Addr) (c' : Nat) W h => loop_longest p' c' T rows hrlen (by omega) W h)
  have TT := Lib.hid (fun (p' : Option Addr) (c' : Nat) W h => loop_total p' c' T rows hrlen (fun a ha => (hrin a ha).1) (by omega) W h)
  have hti := (Lp.tot_in rows (fun a ha => (hrin a ha).1) T (by omega)).1
  have hfa : M * 64 < 9223372036854775807 → (Lp.tot rows T).load = (Lp.tot rows T).repl + (Lp.tot rows T).why := fun h => by
    obtain ⟨a1, _, _, a4, _⟩ := HK.out (by omega)
    rw [a1, a4]
  have hfb : M ≤ Sat.clamp (p.mn * p.tg) → M * 64 < 9223372036854775807 → (Lp.tot rows T).why = 0 := fun h h' => by
    obtain ⟨_, _, _, a4, _⟩ := HK.out (by omega)
    rw [a4]; exact HN2.out h
  obtain ⟨⟨t0, t1, t2, t3, t4⟩, et⟩ : ∃ x, x = Lp.tot rows T := ⟨_, rfl⟩
  obtain ⟨lg, elg⟩ : ∃ x, x = Lp.long rows T := ⟨_, rfl⟩
  rw [← et] at TT hfa hfb hti
  rw [← elg] at LG HN
  simp only at TT hfa hfb
  have MU := Lib.hid (ref_mul M 64 hm64 (by unfold I64; omega))
  have MT := Lib.hid (ref_mul p.mn p.tg hp.1 hp.2.2.1)
  have hcm : Sat.clamp (M * 64) = 9223372036854775807 ∨ (Sat.clamp (M * 64) < 9223372036854775807 ∧ M * 64 < 9223372036854775807) := by
    unfold Sat.clamp
    split
    · omega
    · split <;> omega
  obtain ⟨m64, em64⟩ : ∃ x, x = Sat.clamp (M * 64) := ⟨_, rfl⟩
  obtain ⟨mt, emt⟩ : ∃ x, x = Sat.clamp (p.mn * p.tg) := ⟨_, rfl⟩
  rw [← em64] at MU hcm
  rw [← emt] at MT HN hfb
  have HFA := Lib.hid hfa
  have HFB := Lib.hid hfb
  have HCM := Lib.hid hcm
  have HTI := Lib.hid hti
  have HS := Lib.hid hs
  have HIN := Lib.hid hl
  have EN := Lib.hid en
  have d1 : decide ((6 : Int) < n) = false := decide_eq_false (by omega)
  have d2 : decide ((T : Int) < 0) = false := decide_eq_false (by omega)
  have d3 : decide ((40 : Int) < T) = false := decide_eq_false (by omega)
  clear hfa hfb hcm hti hs hl en em64 emt et elg eM elf erows emo hC hz hgood hrlen hrin he hfi HK HN2 HME HMS HM64 hok hm64 hm0 hp
  go_enter Try.func12, Try.ntmps12
  go_wp2_with fail
  (with_reducible refine (awake55 _).mono ?_)
  rintro e w1 ⟨rfl, hb1⟩
  have M1 := Lib.hid (((Mem.start w).alloc (.cells #[.int .i64 p.mn, .int .i64 p.mx, .int .i64 p.tg, .int .i64 p.tl, .int .i64 p.wi, .int .i64 p.ho] 54)).call hb1)
  have K1 := Lib.hid (M1.out.heap 0 rfl)
  clear hb1
  go_wp2_with ((with_reducible refine wpList_load_rowG ?_ 54 _ rfl (w.heap.size) ?_ 54 #[.int .i64 p.mn, .int .i64 p.mx, .int .i64 p.tg, .int .i64 p.tl, .int .i64 p.wi, .int .i64 p.ho] (0, 0) _ 6 ?_ Try.underlying54 rfl (by kernel_rfl) ?_ ?_); kernel_rfl; exact rfl; exact K1.out; exact rfl)
  (with_reducible refine (C.out _ (HS.out.below M1.out.below)).mono ?_)
  rintro e w2 ⟨rfl, hb2⟩
  have M2 := Lib.hid (M1.out.call hb2)
  clear hb2 M1 K1 C
  go_wp2_with fail
  have hst := stab_and (stab_mem (w := w) (bs := [(w.heap.size, .cells #[.int .i64 p.mn, .int .i64 p.mx, .int .i64 p.tg, .int .i64 p.tl, .int .i64 p.wi, .int .i64 p.ho] 54)])) (stab_advs (q := q) (l := l))
  refine wp_region_E mixed [] hst ⟨M2.out.drewN 1, (HS.out.below M2.out.below).below (below_drew (Below.refl _ _))⟩ ?_
  refine wpAnyE_take 0 (v := .agg #[.int .i64 p.mn, .int .i64 p.mx, .int .i64 p.tg, .int .i64 p.tl, .int .i64 p.wi, .int .i64 p.ho]) rfl (by kernel_rfl) (by kernel_rfl) (by kernel_rfl) (fun _ _ _ h => h) hst (EffB.run rfl rfl (fun wd hS => ?_)) (.inl (by kernel_rfl)) ?_
  · exact wp_load_row 54 _ rfl (w.heap.size) rfl 54 #[.int .i64 p.mn, .int .i64 p.mx, .int .i64 p.tg, .int .i64 p.tl, .int .i64 p.wi, .int .i64 p.ho] (0, 0) _ (hS.1.heap 0 rfl) Try.underlying54 rfl (by kernel_rfl) ⟨rfl, Below.refl _ _⟩
  simp only [act_norm]
  refine wpAnyE_take 1 rfl (by kernel_rfl) (by kernel_rfl) (by kernel_rfl) (fun _ _ _ h => h) hst (EffB.pure rfl (fun _ => rfl)) (.inr (EffB.pure rfl (fun _ => rfl))) ?_
  simp only [act_norm]
  refine wpAnyE_take 2 rfl (by kernel_rfl) (by kernel_rfl) (by kernel_rfl) (fun _ _ _ h => h) hst (EffB.pure rfl (fun _ => rfl)) (.inr (EffB.pure rfl (fun _ => rfl))) ?_
  simp only [act_norm]
  refine wpAnyE_one 3 rfl (by kernel_rfl) rfl (fun wd hS => ?_)
  have P3 := SH.out wd hS.2
  go_wp2_with fail
  (with_reducible refine P3.mono ?_)
  rintro e w3 ⟨u3, rfl, ho3, hb3⟩
  obtain ⟨p3, c3, e3, _, ha3⟩ := advs_of_owns (l := l) (by rw [EN.out]; exact ho3)
  rw [EN.out] at e3
  subst e3
  have hstN := stab_and hst (stab_advs (q := p3) (l := l))
  refine ⟨_, ⟨hst _ _ hS hb3, ha3⟩, hstN, (by first | exact (fun _ h => h.1) | exact .inr (fun _ h => h.1)), ?_⟩
  try simp only [act_norm]
  clear hS ho3 hb3 P3 hst ha3
  have hst := hstN
  clear hstN
  refine wpAnyE_one 4 rfl (by kernel_rfl) rfl (fun wd hS => ?_)
  have P4 := R.out p3 c3 wd hS.2
  go_wp2_with fail
  (with_reducible refine P4.mono ?_)
  rintro e w4 ⟨u4, rfl, ho4, hb4⟩
  have hrl : rows.length = T := by have h0 := ho4.1; rw [advVals_len] at h0; omega
  obtain ⟨p4, c4, e4, _, ha4⟩ := advs_of_owns (l := rows) (by rw [hrl]; exact ho4)
  rw [hrl] at e4
  subst e4
  have hstN := stab_and hst (stab_advs (q := p4) (l := rows))
  refine ⟨_, ⟨hst _ _ hS hb4, ha4⟩, hstN, (by first | exact (fun _ h => h.1) | exact .inr (fun _ h => h.1)), ?_⟩
  try simp only [act_norm]
  clear hS ho4 hb4 P4 hst ha4 hrl
  have hst := hstN
  clear hstN
  refine wpAnyE_take 5 rfl (by kernel_rfl) (by kernel_rfl) (by kernel_rfl) (fun _ _ _ h => h) hst (EffB.pure rfl (fun _ => rfl)) (.inr (EffB.pure rfl (fun _ => rfl))) ?_
  simp only [act_norm]
  refine wpAnyE_take 6 (v := .slice p4 T c4) rfl (by kernel_rfl) (by kernel_rfl) (by kernel_rfl) (fun _ _ _ h => h) hst (EffB.run rfl rfl (fun wd hS => ?_)) (.inr (EffB.run rfl rfl (fun wd hS => ?_))) ?_
  · (go_wp2; exact ⟨rfl, Below.refl _ _⟩)
  · (go_wp2; exact ⟨rfl, Below.refl _ _⟩)
  simp only [act_norm]
  refine wpAnyE_take 7 (v := .int .i64 0) rfl (by kernel_rfl) (by kernel_rfl) (by kernel_rfl) (fun _ _ _ h => h) hst (EffB.run rfl rfl (fun wd hS => ?_)) (.inr (EffB.run rfl rfl (fun wd hS => ?_))) ?_
  · (go_wp2; exact ⟨rfl, Below.refl _ _⟩)
  · (go_wp2; exact ⟨rfl, Below.refl _ _⟩)
  simp only [act_norm]
  refine wpAnyE_take 8 rfl (by kernel_rfl) (by kernel_rfl) (by kernel_rfl) (fun _ _ _ h => h) hst (EffB.pure rfl (fun _ => rfl)) (.inr (EffB.pure rfl (fun _ => rfl))) ?_
  simp only [act_norm]
  refine wpAnyE_take 9 rfl (by kernel_rfl) (by kernel_rfl) (by kernel_rfl) (fun _ _ _ h => h) hst (EffB.pure rfl (fun _ => rfl)) (.inr (EffB.pure rfl (fun _ => rfl))) ?_
  simp only [act_norm]
  refine wpAnyE_done (by kernel_rfl) (fun wd hS => ?_) _
  have MM := Lib.hid hS.1.1.1
  have AA := Lib.hid hS.2
  clear hS hst M2 SH R
  go_wp2
  go_loopw [9, 51] (fun s i wr => ∃ k : Nat, k ≤ n ∧ i = .int .i64 (k : Nat) ∧ s = .int .i64 (mo k) ∧ Mem w wr [(w.heap.size, .cells #[.int .i64 p.mn, .int .i64 p.mx, .int .i64 p.tg, .int .i64 p.tl, .int .i64 p.wi, .int .i64 p.ho] 54)] ∧ Advs wr p4 rows) (fun _ i _ => n - (intOf i).toNat)
  case atStart => exact ⟨0, by omega, rfl, by rw [HM0.out], MM.out, AA.out⟩
  case round =>
    obtain ⟨k, hk, rfl, rfl, hM, hA⟩ := hrel
    clear MM AA HM0
    by_cases hlt : k < n
    · have hkl : k < l.length := by have := EN.out; omega
      obtain ⟨bq, off, rfl, hbw, c0, c1, c2, c3, c4⟩ := (HS.out.below hM.below).cells k hkl
      have hin : (l[k]?.getD default).In := by rw [List.getElem?_eq_getElem hkl]; exact HIN.out _ (List.getElem_mem _)
      have hms := HMS2.out k hkl
      have h64 := HM642.out k
      obtain ⟨⟨x0, x1, x2, x3, x4⟩, ex⟩ : ∃ x, x = l[k]?.getD default := ⟨_, rfl⟩
      rw [← ex] at c0 c1 c2 c3 c4 hms hin
      simp only at c0 c1 c2 c3 c4 hms
      obtain ⟨s, es⟩ : ∃ s, s = mo k := ⟨_, rfl⟩
      rw [← es] at hms h64 ⊢
      have A := Lib.hid (ref_add s x2 h64 hin.2.2.1)
      have HMS3 := Lib.hid hms
      have MB := Lib.hid ((hM.alloc (.cells #[.int .i64 x0, .int .i64 x1, .int .i64 x2, .int .i64 x3, .int .i64 x4] 106)).init)
      have AB := Lib.hid (hA.below (below1 wr (.cells #[.int .i64 x0, .int .i64 x1, .int .i64 x2, .int .i64 x3, .int .i64 x4] 106)))
      have k2 : (wr.alloc (.cells #[.int .i64 x0, .int .i64 x1, .int .i64 x2, .int .i64 x3, .int .i64 x4] 106)).cell? ⟨wr.heap.size, 2, none⟩ = some (.int .i64 x2) := by rw [cell_of_row _ _ _ _ _ _ (heap_alloc_at wr _ _ rfl)]; rfl
      have hkn : (k : Int) < n := by omega
      clear hms h64 hin ex es hM hA
      go_wp2_with ((with_reducible refine (A.out _).mono ?_); rintro e w5 ⟨rfl, rfl⟩)
      exact ⟨⟨k + 1, by omega, by go_num, by rw [HMS3.out], MB.out, AB.out⟩, by simp [intOf]; omega⟩
    · obtain rfl : k = n := by omega
      rw [HME2.out]
      have P5 := TT.out p4 c4 wr hA
      have MM := Lib.hid hM
      have AA := Lib.hid hA
      have hti := HTI.out
      have P5 := Lib.hid P5
      clear hM hA HME2 HMS2 HM642 hti
      go_wp2_with fail
      (with_reducible refine P5.out.mono ?_)
      rintro e w6 ⟨rfl, hb6⟩
      have M6 := (MM.out.call hb6)
      have A6 := Lib.hid ((AA.out.below hb6).below (below1 w6 (.cells #[.int .i64 t0, .int .i64 t1, .int .i64 t2, .int .i64 t3, .int .i64 t4] 109)))
      have M7 := Lib.hid (M6.alloc (.cells #[.int .i64 t0, .int .i64 t1, .int .i64 t2, .int .i64 t3, .int .i64 t4] 109))
      have k0 := M7.out.cell 0 0 rfl rfl
      have k2 := M7.out.cell 0 2 rfl rfl
      have r1 := M7.out.cell 1 1 rfl rfl
      have r3 := M7.out.cell 1 3 rfl rfl
      have r4 := M7.out.cell 1 4 rfl rfl
      clear hb6 M6 P5 MM AA
      rcases HCM.out with hc | ⟨hc, hc2⟩
      · subst hc
        have HB := Lib.hid M7.out.below
        go_wp2_with ((with_reducible refine (MU.out _).mono ?_); rintro e w8 ⟨rfl, rfl⟩)
        go_ret
        exact ⟨rfl, HB.out⟩
      · have hcb : (m64 == 9223372036854775807) = false := beq_eq_false_iff_ne.2 (by omega)
        have hsum := HFA.out hc2
        have hsb : IntKind.i64.wrap (t3 + t4) = t1 := by rw [IntKind.wrap_i64]; have := HTI.out.2.1; unfold I64 at this; simp only at this; omega
        have hft := HFB.out
        have HNL := Lib.hid (fun hm => HN.out hm)
        by_cases hm : mt < M
        · have HB := Lib.hid M7.out.below
          clear hft hc hc2 HCM
          obtain ⟨s34, es34⟩ : ∃ s, t3 + t4 = s := ⟨_, rfl⟩
          rw [es34] at hsb hsum
          obtain rfl : t1 = s34 := hsum
          go_wp2_with (first | ((with_reducible refine (MU.out _).mono ?_); rintro e w8 ⟨rfl, rfl⟩) | ((with_reducible refine (MT.out _).mono ?_); rintro e w8 ⟨rfl, rfl⟩))
          go_ret
          exact ⟨rfl, HB.out⟩
        · obtain rfl : t4 = 0 := hft (by omega) hc2
          have P8 := LG.out p4 c4 _ A6.out
          have hl0 : lg = 0 := HNL.out (by omega)
          rw [hl0] at P8
          have P8 := Lib.hid P8
          have M8 := M7
          clear hft hl0 hc hc2 HCM
          obtain rfl : t1 = t3 := by omega
          clear hsum
          rw [Int.add_zero] at hsb
          go_wp2_with (first | ((with_reducible refine (MU.out _).mono ?_); rintro e w8 ⟨rfl, rfl⟩) | ((with_reducible refine (MT.out _).mono ?_); rintro e w8 ⟨rfl, rfl⟩))
          (with_reducible refine P8.out.mono ?_)
          rintro e w9 ⟨rfl, hb9⟩
          have HB := Lib.hid (M8.out.call hb9).below
          clear hb9
          go_wp2
          go_ret
          exact ⟨rfl, HB.out⟩

include hp ht hl hb hs in
theorem loopKeeps_walk : Calls Try.prog 12 #[.agg #[.int .i64 p.mn, .int .i64 p.mx, .int .i64 p.tg, .int .i64 p.tl, .int .i64 p.wi, .int .i64 p.ho], .int .i64 ticks, .slice q l.length cap] w fun e w' => e = .returned (.bool true) ∧ Below w.heap.size w w' := by
  by_cases h : 6 < l.length ∨ ticks < 0 ∨ 40 < ticks
  · exact loopKeeps_out p ticks q cap w l.length hb h
  · by_cases he : Lp.err p ticks l = 0
    · obtain ⟨T, rfl⟩ : ∃ T : Nat, ticks = T := ⟨ticks.toNat, by omega⟩
      exact loopKeeps_good p hp q cap l hl w hs l.length T rfl (by omega) (by omega) he
    · exact loopKeeps_bad p ticks q cap l w hs l.length rfl (by omega) (by omega) (by omega) he
end
end Go.Proofs.Ytldhbgefpfmkmaa
