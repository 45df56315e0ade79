/- Layer 48: the first decision that breaks a rule, and how many break which: the law, walked. -/
import Derived.Test.YtcanbagnehdbiaaJAudit11
namespace Go.Proofs.Ytcanbagnehdbiaa
open Go.ChangeShapes Go.WideShapes Go.ChangeAt Go.RowKit

theorem run_equalIn_ints6 {P : Program} (d : Nat) (t e : TypeId) (n : Nat) (cs : Array Value) (f : Nat → Int) (hc : ∀ i, i < n → cs[i]? = some (.int .i64 (f i))) (ht : P.underlying t = some (.array n e)) (he : P.underlying e = some (.int .i64)) (hsz : ∀ w, (sizeOf e).run P w = .ok 1 w) (w : World) :
    (Op.equalIn (d + 2) t (.agg cs) (.agg cs)).run P w = .ok true w := by
  rw [Op.equalIn]
  simp only [Sem.run_bind, run_underlying ht, Result.andThen_ok, hsz, Std.Legacy.Range.forIn_eq_forIn_range', Std.Legacy.Range.size, Nat.sub_zero, Nat.add_sub_cancel, Nat.div_one]
  have hl : ∀ i ∈ List.range' 0 n 1, i < n := fun i hi => by simpa using (List.mem_range'_1.1 hi).2
  generalize List.range' 0 n 1 = l at hl ⊢
  induction l with
  | nil => simp
  | cons i l ih =>
    have hi : i < n := hl i (by simp)
    have px : (part e cs (i * 1)).run P w = .ok (.int .i64 (f i)) w := by
      simp [part, isAgg, run_underlying he, hc i hi]
    have pe : (Op.equalIn (d + 1) e (.int .i64 (f i)) (.int .i64 (f i))).run P w = .ok true w := by
      rw [run_equalIn_int w _ _ _ _ _ _ he]
      simp
    simp only [List.forIn_cons, Sem.run_bind, px, pe, Result.andThen_ok, Bool.not_true, Bool.false_eq_true, if_false, Sem.run_pure]
    exact ih fun j hj => hl j (by simp [hj])
theorem row6_equal (t : Nat → Int) (w : World) : (Op.equalIn 10000 30 (.agg (Aud.row6 t)) (.agg (Aud.row6 t))).run Try.prog w = .ok true w :=
  run_equalIn_ints6 (P := Try.prog) 9998 30 3 6 _ t (fun i hi => Aud.row6_get t i hi) Try.underlying30 Try.underlying3 (fun w => by kernel_rfl) w

set_option maxHeartbeats 4000000 in
set_option maxRecDepth 100000 in
theorem auditChecks_walk (p : Pol) (hp : p.In) (q : Option Addr) (cap : Nat) (l : List Adv) (hl : ∀ a ∈ l, a.In) (hb : l.length ≤ 9223372036854775807) (room : Int) (w : World) (hs : Advs w q l) :
    Calls Try.prog 3 #[.agg #[.int .i64 p.mn, .int .i64 p.mx, .int .i64 p.tg, .int .i64 p.tl, .int .i64 p.wi, .int .i64 p.ho], .slice q l.length cap, .int .i64 room] w fun e w' => e = .returned (.bool true) ∧ Below w.heap.size w w' := by
  obtain ⟨n, en⟩ : ∃ n, n = l.length := ⟨_, rfl⟩
  by_cases h1 : 60 < n
  · have d1 : decide ((60 : Int) < n) = true := decide_eq_true (by omega)
    rw [← en] at hb ⊢
    clear en hs hl
    go_enter Try.func3, Try.ntmps3
    go_wp2_with fail
    (with_reducible refine (awake48 _).mono ?_)
    rintro e w1 ⟨rfl, hb1⟩
    have M1 := Lib.hid (((Mem.start w).alloc (.cells #[.int .i64 p.mn, .int .i64 p.mx, .int .i64 p.tg, .int .i64 p.tl, .int .i64 p.wi, .int .i64 p.ho] 23)).call hb1)
    clear hb1
    go_wp2
    go_ret
    exact ⟨rfl, M1.out.below⟩
  have d1 : decide ((60 : Int) < n) = false := decide_eq_false (by omega)
  obtain ⟨⟨x, y⟩, exy⟩ : ∃ z : Int × Int, z = Aud.look (Aud.at p room l) 0 (l.length - 0) := ⟨_, rfl⟩
  have f1 := fun W : World => fun h : Advs W q l => audit_check p hp q cap l hl (by omega) room W h x y exy.symm
  have f2 := fun W : World => fun h : Advs W q l => ref48_rules p hp q cap l hl (by omega) room W h
  have f3 := fun W : World => fun h : Advs W q l => audit_counts p hp q cap l hl (by omega) room W h
  have HGET := Lib.hid (Aud.rules_get p room l n)
  obtain ⟨ru, eru⟩ : ∃ ru, ru = Aud.at p room l := ⟨_, rfl⟩
  have HR6 : Hid (∀ k, 0 ≤ ru k ∧ ru k ≤ 5) := fun k => by rw [eru]; exact Aud.at_bd _ _ _ _
  have HCB := Lib.hid (Aud.cnt_bd ru)
  have HCN := Lib.hid (fun k => show Aud.cnt ru (k + 1) = fun i => if i = (ru k).toNat then Aud.cnt ru k (ru k).toNat + 1 else Aud.cnt ru k i from rfl)
  have HC0 : Hid (Aud.cnt ru 0 = fun _ => 0) := rfl
  rw [← eru] at exy HGET
  simp only [← eru, ← en] at f3
  rw [← en] at exy
  have HXY := Lib.hid exy
  obtain ⟨cn, ecn⟩ : ∃ cn, cn = Aud.cnt ru := ⟨_, rfl⟩
  rw [← ecn] at HCN HCB HC0
  simp only [← ecn] at f3
  simp only [← en] at f1 f2
  obtain ⟨rl, erl⟩ : ∃ rl, rl = Aud.rules p room l n := ⟨_, rfl⟩
  simp only [← erl] at f2
  rw [← erl] at HGET
  rw [← en] at hb ⊢
  have F1 := Lib.hid f1
  have F2 := Lib.hid f2
  have F3 := Lib.hid f3
  have HS := Lib.hid hs
  clear f1 f2 f3 hs en hl hp eru ecn erl exy
  go_enter Try.func3, Try.ntmps3
  go_wp2_with fail
  (with_reducible refine (awake48 _).mono ?_)
  rintro e w1 ⟨rfl, hb1⟩
  have M1 := Lib.hid (((Mem.start w).alloc (.cells #[.int .i64 p.mn, .int .i64 p.mx, .int .i64 p.tg, .int .i64 p.tl, .int .i64 p.wi, .int .i64 p.ho] 23)).call hb1)
  have K1 := Lib.hid (M1.out.heap 0 rfl)
  clear hb1
  go_wp2_with ((with_reducible refine wpList_load_rowAs rfl 23 _ rfl (w.heap.size) ?_ 23 #[.int .i64 p.mn, .int .i64 p.mx, .int .i64 p.tg, .int .i64 p.tl, .int .i64 p.wi, .int .i64 p.ho] (0, 0) _ 6 ?_ Try.underlying23 rfl (by kernel_rfl) ?_ ?_); exact rfl; exact K1.out; exact rfl)
  (with_reducible refine (F1.out _ (HS.out.below M1.out.below)).mono ?_)
  rintro e w2 ⟨rfl, hb2⟩
  have M2 := Lib.hid (M1.out.call hb2)
  have K2 := Lib.hid (M2.out.heap 0 rfl)
  clear hb2 M1 K1
  go_wp2_with ((with_reducible refine wpList_load_rowAs rfl 23 _ rfl (w.heap.size) ?_ 23 #[.int .i64 p.mn, .int .i64 p.mx, .int .i64 p.tg, .int .i64 p.tl, .int .i64 p.wi, .int .i64 p.ho] (0, 0) _ 6 ?_ Try.underlying23 rfl (by kernel_rfl) ?_ ?_); exact rfl; exact K2.out; exact rfl)
  (with_reducible refine (F2.out _ (HS.out.below M2.out.below)).mono ?_)
  rintro e w3 ⟨u, rfl, ho, hb3⟩
  obtain ⟨pu, cu, rfl, hcu, _⟩ := ho.sl
  have M3 := Lib.hid ((M2.out.call hb3).alloc (.cells #[.int .i64 0, .int .i64 0, .int .i64 0, .int .i64 0, .int .i64 0, .int .i64 0] 30))
  have O3 := Lib.hid (ho.below (below1 w3 (.cells #[.int .i64 0, .int .i64 0, .int .i64 0, .int .i64 0, .int .i64 0, .int .i64 0] 30)))
  obtain ⟨Y, hY⟩ : ∃ Y, w3.heap.size = Y := ⟨_, rfl⟩
  have hpu : ∀ k, (Value.slice pu n cu).ownBlock = some k → k < Y := fun k hk => hY ▸ (ho.lt k hk).2
  have HPU := Lib.hid hpu
  have hcap : Hid (n ≤ cu) := hcu
  clear hb3 ho M2 K2 hpu hcu
  go_wp2
  rw [hY] at M3
  clear hY
  go_loopw [10, 11, 33] (fun f t i wr => ∃ (k : Nat) (fi ti : Int), k ≤ n ∧ i = .int .i64 (k : Nat) ∧ f = .int .i64 fi ∧ t = .int .i64 ti ∧ (fi = -1 ∧ ti = 0 ∧ (x, y) = Aud.look ru k (n - k) ∨ 0 ≤ fi ∧ fi = x ∧ ti = y) ∧ Owns wr w2.heap.size 1 (.slice pu n cu) n (intVals rl) ∧ Mem w wr [(w.heap.size, .cells #[.int .i64 p.mn, .int .i64 p.mx, .int .i64 p.tg, .int .i64 p.tl, .int .i64 p.wi, .int .i64 p.ho] 23), (Y, .cells (Aud.row6 (cn k)) 30 (0, 0))]) (fun _ _ i _ => n - (intOf i).toNat)
  case atStart => exact ⟨0, -1, 0, by omega, rfl, rfl, rfl, .inl ⟨rfl, rfl, HXY.out⟩, O3.out, by rw [HC0.out]; exact M3.out⟩
  case round =>
    obtain ⟨k, fi, ti, hk, rfl, rfl, rfl, hI, hO, hM⟩ := hrel
    by_cases hlt : k < n
    · obtain ⟨g, cap', e, hg1, hg2, hcap', hcell, _⟩ := hO.some_of (by omega)
      simp only [Value.slice.injEq] at e
      obtain ⟨rfl, _, rfl⟩ := e
      have hgY : g < Y := HPU.out g rfl
      have c0 : wr.cell? ⟨g, k, none⟩ = some (.int .i64 (ru k)) := hcell k _ (by show (intVals rl)[k]? = _; unfold intVals; rw [List.getElem?_map, HGET.out k hlt]; rfl)
      have hr6 := HR6.out k
      have hcn := HCN.out k
      have hcb := HCB.out k
      have HFI := Lib.hid (fun h : ru k = 0 => Aud.look_fine hlt h)
      have HBR := Lib.hid (fun h : ¬ ru k = 0 => Aud.look_broken hlt h)
      obtain ⟨tk, etk⟩ : ∃ tk, tk = cn k := ⟨_, rfl⟩
      rw [← etk] at hcn hcb hM
      obtain ⟨r0, er0⟩ : ∃ r0, r0 = ru k := ⟨_, rfl⟩
      rw [← er0] at HFI HBR hcn c0 hr6
      obtain ⟨R, rfl⟩ : ∃ R : Nat, r0 = R := ⟨r0.toNat, by omega⟩
      rw [Int.toNat_natCast] at hcn
      have HCQ := Lib.hid hcn
      have hR5 : R < 6 := by omega
      have htR := hcb R
      have k1 : wr.cell? ⟨Y, R, none⟩ = some (.int .i64 (tk R)) := hM.cell 1 R rfl (Aud.row6_get tk R hR5)
      have g1 : wr.frozen? ⟨Y, R, none⟩ = false := hM.free 1 R rfl
      have M4 : Hid (Mem w (wr.setCell ⟨Y, R, none⟩ (.int .i64 (tk R + 1))) [(w.heap.size, .cells #[.int .i64 p.mn, .int .i64 p.mx, .int .i64 p.tg, .int .i64 p.tl, .int .i64 p.wi, .int .i64 p.ho] 23), (Y, .cells (Aud.row6 (fun i => if i = R then tk R + 1 else tk i)) 30 (0, 0))]) := by
        have := hM.setCell 1 R (.int .i64 (tk R + 1)) rfl
        rw [Aud.row6_set tk R hR5] at this
        exact this
      have O4 := Lib.hid (hO.setOther (b := Y) (j := R) (.int .i64 (tk R + 1)) (by intro e; have := HPU.out Y e; omega))
      obtain ⟨v, ev⟩ : ∃ v, v = tk R := ⟨_, rfl⟩
      have HV := Lib.hid ev
      rw [← ev] at htR k1 M4 O4
      have hv1 : 0 ≤ v := htR.1
      have hv2 : v ≤ 1000 := by have := htR.2; omega
      have hR6 : (R : Int) < 6 := by omega
      have hkk : (k : Int) < n := by omega
      clear hO hM hcell hr6 hcb hcn htR etk er0 ev HGET HR6 HCB HCN HC0 O3 M3
      by_cases hz : R = 0
      · subst hz
        have HL := Lib.hid (HFI.out rfl)
        clear HFI HBR
        have hI2 : fi = -1 ∧ ti = 0 ∧ (x, y) = Aud.look ru (k + 1) (n - (k + 1)) ∨ 0 ≤ fi ∧ fi = x ∧ ti = y := hI.imp (fun ⟨a, b, c⟩ => ⟨a, b, c.trans HL.out⟩) id
        have HI2 := Lib.hid hI2
        clear hI hI2 HL
        go_wp2
        exact ⟨⟨k + 1, fi, ti, by omega, by go_num, rfl, rfl, HI2.out, O4.out, by rw [HCQ.out, ← HV.out]; exact M4.out⟩, by simp [intOf]; omega⟩
      · have hzi : ¬ ((R : Int) = 0) := by omega
        have HL := Lib.hid (HBR.out hzi)
        clear HFI HBR
        rcases hI with ⟨rfl, rfl, hx⟩ | ⟨h0, rfl, rfl⟩
        · have hx2 := hx.trans HL.out
          simp only [Prod.mk.injEq] at hx2
          have HX := Lib.hid hx2
          clear hx hx2 HL
          go_wp2
          exact ⟨⟨k + 1, k, R, by omega, by go_num, rfl, rfl, .inr ⟨by omega, HX.out.1.symm, HX.out.2.symm⟩, O4.out, by rw [HCQ.out, ← HV.out]; exact M4.out⟩, by simp [intOf]; omega⟩
        · have h0' : ¬ fi < 0 := by omega
          clear HL
          go_wp2
          exact ⟨⟨k + 1, fi, ti, by omega, by go_num, rfl, rfl, .inr ⟨h0, rfl, rfl⟩, O4.out, by rw [HCQ.out, ← HV.out]; exact M4.out⟩, by simp [intOf]; omega⟩
    · obtain rfl : k = n := by omega
      have hxf : fi = x ∧ ti = y := by
        rcases hI with ⟨rfl, rfl, hx⟩ | ⟨_, h2, h3⟩
        · rw [Aud.look_end (by omega)] at hx
          simp only [Prod.mk.injEq] at hx
          exact ⟨hx.1.symm, hx.2.symm⟩
        · exact ⟨h2, h3⟩
      obtain ⟨rfl, rfl⟩ := hxf
      have MM := Lib.hid hM
      clear hI hO hM HGET HR6 HCB HCN HC0 O3 M3
      obtain ⟨ck, eck⟩ : ∃ ck, ck = cn k := ⟨_, rfl⟩
      rw [← eck] at F3 MM
      clear eck
      have hst := stab_and (stab_mem (w := w) (bs := [(w.heap.size, .cells #[.int .i64 p.mn, .int .i64 p.mx, .int .i64 p.tg, .int .i64 p.tl, .int .i64 p.wi, .int .i64 p.ho] 23), (Y, .cells (Aud.row6 ck) 30 (0, 0))])) (stab_pure True)
      go_wp2_with fail
      refine wp_region_E mixed [] hst ⟨MM.out.drewN 1, trivial⟩ ?_
      refine wpAnyE_take 0 rfl (by kernel_rfl) (by kernel_rfl) (by kernel_rfl) (fun _ _ _ h => h) hst (EffB.pure rfl (fun _ => rfl)) (.inr (EffB.pure rfl (fun _ => rfl))) ?_
      simp only [act_norm]
      refine wpAnyE_take 1 rfl (by kernel_rfl) (by kernel_rfl) (by kernel_rfl) (fun _ _ _ h => h) hst (EffB.pure rfl (fun _ => rfl)) (.inr (EffB.pure rfl (fun _ => rfl))) ?_
      simp only [act_norm]
      refine wpAnyE_take 2 (v := .bool true) rfl (by kernel_rfl) (by kernel_rfl) (by kernel_rfl) (fun _ _ _ h => h) hst (EffB.run rfl rfl (fun wd hS => ?_)) (.inr (EffB.run rfl rfl (fun wd hS => ?_))) ?_
      · (go_wp2; exact ⟨rfl, Below.refl _ _⟩)
      · (go_wp2; exact ⟨rfl, Below.refl _ _⟩)
      simp only [act_norm]
      refine wpAnyE_take 3 rfl (by kernel_rfl) (by kernel_rfl) (by kernel_rfl) (fun _ _ _ h => h) hst (EffB.pure rfl (fun _ => rfl)) (.inr (EffB.pure rfl (fun _ => rfl))) ?_
      simp only [act_norm]
      refine wpAnyE_take 4 rfl (by kernel_rfl) (by kernel_rfl) (by kernel_rfl) (fun _ _ _ h => h) hst (EffB.pure rfl (fun _ => rfl)) (.inr (EffB.pure rfl (fun _ => rfl))) ?_
      simp only [act_norm]
      refine wpAnyE_take 5 rfl (by kernel_rfl) (by kernel_rfl) (by kernel_rfl) (fun _ _ _ h => h) hst (EffB.pure rfl (fun _ => rfl)) (.inr (EffB.pure rfl (fun _ => rfl))) ?_
      simp only [act_norm]
      refine wpAnyE_take 6 (v := .bool true) rfl (by kernel_rfl) (by kernel_rfl) (by kernel_rfl) (fun _ _ _ h => h) hst (EffB.run rfl rfl (fun wd hS => ?_)) (.inr (EffB.run rfl rfl (fun wd hS => ?_))) ?_
      · (go_wp2; exact ⟨rfl, Below.refl _ _⟩)
      · (go_wp2; exact ⟨rfl, Below.refl _ _⟩)
      simp only [act_norm]
      refine wpAnyE_take 7 (v := .bool true) rfl (by kernel_rfl) (by kernel_rfl) (by kernel_rfl) (fun _ _ _ h => h) hst (EffB.run rfl rfl (fun wd hS => ?_)) (.inr (EffB.run rfl rfl (fun wd hS => ?_))) ?_
      · (go_wp2; exact ⟨rfl, Below.refl _ _⟩)
      · (go_wp2; exact ⟨rfl, Below.refl _ _⟩)
      simp only [act_norm]
      refine wpAnyE_take 8 rfl (by kernel_rfl) (by kernel_rfl) (by kernel_rfl) (fun _ _ _ h => h) hst (EffB.pure rfl (fun _ => rfl)) (.inr (EffB.pure rfl (fun _ => rfl))) ?_
      simp only [act_norm]
      refine wpAnyE_take 9 (v := .agg #[.int .i64 p.mn, .int .i64 p.mx, .int .i64 p.tg, .int .i64 p.tl, .int .i64 p.wi, .int .i64 p.ho]) rfl (by kernel_rfl) (by kernel_rfl) (by kernel_rfl) (fun _ _ _ h => h) hst (EffB.run rfl rfl (fun wd hS => ?_)) (.inl (by kernel_rfl)) ?_
      · exact wp_load_row 23 _ rfl (w.heap.size) rfl 23 #[.int .i64 p.mn, .int .i64 p.mx, .int .i64 p.tg, .int .i64 p.tl, .int .i64 p.wi, .int .i64 p.ho] (0, 0) _ (hS.1.heap 0 rfl) Try.underlying23 rfl (by kernel_rfl) ⟨rfl, Below.refl _ _⟩
      simp only [act_norm]
      refine wpAnyE_take 10 rfl (by kernel_rfl) (by kernel_rfl) (by kernel_rfl) (fun _ _ _ h => h) hst (EffB.pure rfl (fun _ => rfl)) (.inr (EffB.pure rfl (fun _ => rfl))) ?_
      simp only [act_norm]
      refine wpAnyE_take 11 rfl (by kernel_rfl) (by kernel_rfl) (by kernel_rfl) (fun _ _ _ h => h) hst (EffB.pure rfl (fun _ => rfl)) (.inr (EffB.pure rfl (fun _ => rfl))) ?_
      simp only [act_norm]
      refine wpAnyE_take 12 (v := .agg (Aud.row6 ck)) rfl (by kernel_rfl) (by kernel_rfl) (by kernel_rfl) (fun _ _ _ h => h) hst (EffB.run rfl rfl (fun wd hS => ?_)) (.inl (by kernel_rfl)) ?_
      · (go_wp2_with fail; (with_reducible refine (F3.out wd (HS.out.below hS.1.below)).mono ?_); rintro e w'' ⟨rfl, hb⟩; exact ⟨rfl, hb⟩)
      simp only [act_norm]
      refine wpAnyE_take 13 (v := .agg (Aud.row6 ck)) rfl (by kernel_rfl) (by kernel_rfl) (by kernel_rfl) (fun _ _ _ h => h) hst (EffB.run rfl rfl (fun wd hS => ?_)) (.inl (by kernel_rfl)) ?_
      · exact wp_load_row 30 _ rfl (Y) rfl 30 (Aud.row6 ck) (0, 0) _ (hS.1.heap 1 rfl) Try.underlying30 rfl (by kernel_rfl) ⟨rfl, Below.refl _ _⟩
      simp only [act_norm]
      refine wpAnyE_take 14 (v := .bool true) rfl (by kernel_rfl) (by kernel_rfl) (by kernel_rfl) (fun _ _ _ h => h) hst (EffB.run rfl rfl (fun wd hS => ?_)) (.inl (by kernel_rfl)) ?_
      · exact wp_eql_agg _ _ _ _ rfl _ _ rfl rfl true (by kernel_rfl) (row6_equal ck _) ⟨rfl, Below.refl _ _⟩
      simp only [act_norm]
      refine wpAnyE_take 15 (v := .bool true) rfl (by kernel_rfl) (by kernel_rfl) (by kernel_rfl) (fun _ _ _ h => h) hst (EffB.run rfl rfl (fun wd hS => ?_)) (.inr (EffB.run rfl rfl (fun wd hS => ?_))) ?_
      · (go_wp2; exact ⟨rfl, Below.refl _ _⟩)
      · (go_wp2; exact ⟨rfl, Below.refl _ _⟩)
      simp only [act_norm]
      refine wpAnyE_take 16 rfl (by kernel_rfl) (by kernel_rfl) (by kernel_rfl) (fun _ _ _ h => h) hst (EffB.pure rfl (fun _ => rfl)) (.inr (EffB.pure rfl (fun _ => rfl))) ?_
      simp only [act_norm]
      refine wpAnyE_done (by kernel_rfl) (fun wd hS => ?_) _
      have HF := Lib.hid hS.1.below
      clear hS
      go_wp2
      go_ret
      exact ⟨rfl, HF.out⟩
end Go.Proofs.Ytcanbagnehdbiaa
