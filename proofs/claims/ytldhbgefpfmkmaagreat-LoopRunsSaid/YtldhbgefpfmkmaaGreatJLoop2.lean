/- Layer 55: what happens at each tick: the program's. -/
import Derived.Test.YtldhbgefpfmkmaaGreatJLoop
namespace Go.Proofs.YtldhbgefpfmkmaaGreat
open Go.ChangeShapes Go.WideShapes Go.ChangeAt Go.RowKit

theorem rowInfo : (Tryz.prog.info? 39).map (fun i => (i.zero, i.size, i.bytes)) = some (some (.agg #[.int .i64 0, .int .i64 0, .int .i64 0, .int .i64 0, .int .i64 0]), 5, 40) := by kernel_rfl
section
variable {P : Program} {o : Oper} {a : Act} {w : World} {K : Act → World → Prop} {Q : Exit → Act → World → Prop}
theorem wp_append_anyL (s x : Operand) (t : TypeId) (ho : o.op = .call { callee := .builtin .append, args := #[s, x], argTypes := #[t, t] })
    (B : Nat) (e : TypeId) (z : Value) (size bytes : Nat) (ht : P.underlying t = some (.slice e)) (hi : (P.info? e).map (fun i => (i.zero, i.size, i.bytes)) = some (some z, size, bytes)) (hzs : z.cells.size = size) (hsz : 0 < size)
    (v : Value) (n : Nat) (xs : List Value) (hs : a.eval s = v) (hown : Owns w B size v n xs)
    (ao : Option Addr) (m c : Nat) (news : List Value) (hx : a.eval x = .slice ao m c) (hl : news.length = m * size) (hnone : ao = none → m = 0 ∧ c = 0) (hnews : ∀ ad, ao = some ad → ∀ j u, news[j]? = some u → w.cell? (ad.add j) = some u) (h1 : ∀ u ∈ news, u.oneCell' = true)
    (h63 : n + m ≤ maxLen) (hbytes : (n + m) * bytes ≤ 140737488355328) (hB : B ≤ w.heap.size)
    (h : ∀ v' w', Owns w' B size v' (n + m) (xs ++ news) → w.grownBy w' v.ownBlock → (v'.ownBlock = v.ownBlock ∨ ∀ k, v'.ownBlock = some k → w.heap.size ≤ k) → K (a.put o.dst v') w') : o.wp P a w K Q := by
  obtain ⟨i, hi1, hi2, hi3, hi4⟩ := info_parts hi
  obtain ⟨v', w', hr, h2, h3, h4⟩ := run_append_any2 (P := P) w B t o.type e i z size bytes ht hi1 hi2 hi3 hi4 hzs hsz v n xs hown ao m c news hl hnone hnews h1 h63 hbytes hB
  unfold Oper.wp execOp
  simp only [ho, resolve, invoke, builtin, Sem.run_bind, Sem.run_pure, Result.andThen_ok, List.map_toArray, List.map_cons, List.map_nil, hs, hx, hr]
  exact h v' w' h2 h3 h4
end
theorem Off.append {X s h r n : Nat} {vs vh u u' : Value} (h0 : Off X s h r vs vh u) (hX : X < n) (hv : u'.ownBlock = u.ownBlock ∨ ∀ k, u'.ownBlock = some k → n ≤ k) : Off X s h r vs vh u' :=
  ⟨h0.s, h0.h, h0.r, h0.vs, h0.vh, fun e => by rcases hv with h1 | h1; exact h0.u (h1 ▸ e); have := h1 _ e; omega⟩
def Lp.rows (p : Pol) (ticks : Int) (l : List Adv) : List Adv := if Lp.err p ticks l = 0 then (LS.at p (fun i => Shp.sum l i) ticks.toNat).rows else []
theorem Shp.sum_in (l : List Adv) (t : Int) : 0 ≤ Shp.sum l t ∧ Shp.sum l t ≤ 9223372036854775807 := by
  refine ⟨?_, (Sat.sum_I64 _).2⟩
  unfold Shp.sum
  have key : ∀ k, k ≤ l.length → 0 ≤ Sat.sum ((l.map fun s => Shp.at s t).take k) := by
    intro k
    induction k with
    | zero => intro _; exact Int.le_refl _
    | succ k ih =>
      intro hk
      rw [Shp.sum_step l t k (by omega)]
      exact Sat.clamp_pos (by have := ih (by omega); have := Shp.at_pos (l[k]?.getD default) t; omega)
  have := key l.length (Nat.le_refl _)
  rwa [List.take_of_length_le (by rw [List.length_map]; exact Nat.le_refl _)] at this

set_option maxHeartbeats 4000000 in
set_option maxRecDepth 100000 in
theorem loop_run_bad (p : Pol) (ticks : Int) (q : Option Addr) (c n : Nat) (l : List Adv) (en : l.length = n) (hb : n ≤ 9223372036854775807) (hbad : Lp.err p ticks l ≠ 0) (w : World) (hs : Advs w q l) :
    Calls Tryz.prog 6 #[.agg #[.int .i64 p.mn, .int .i64 p.mx, .int .i64 p.tg, .int .i64 p.tl, .int .i64 p.wi, .int .i64 p.ho], .int .i64 ticks, .slice q n c] w fun e w' => e = .returned (.tuple #[.slice none 0 0, .int .i64 (Lp.err p ticks l)]) ∧ Below w.heap.size w w' := by
  have M0 := Lib.hid ((Mem.start w).alloc (.cells #[.int .i64 p.mn, .int .i64 p.mx, .int .i64 p.tg, .int .i64 p.tl, .int .i64 p.wi, .int .i64 p.ho] 23))
  have HC := Lib.hid (loop_check p ticks q c n l en hb _ (hs.below M0.out.below))
  obtain ⟨e, ee⟩ : ∃ e, e = Lp.err p ticks l := ⟨_, rfl⟩
  rw [← ee] at HC hbad ⊢
  have heb : (e == 0) = false := beq_eq_false_iff_ne.2 hbad
  have K0 := Lib.hid (M0.out.heap 0 rfl)
  clear ee hs hbad en
  go_enter Tryz.func6, Tryz.ntmps6
  go_wp2_with ((with_reducible refine wpList_load_rowAs rfl 23 _ rfl (w.heap.size) ?_ 23 #[.int .i64 p.mn, .int .i64 p.mx, .int .i64 p.tg, .int .i64 p.tl, .int .i64 p.wi, .int .i64 p.ho] (0, 0) _ 6 ?_ Tryz.underlying23 rfl (by kernel_rfl) ?_ ?_); exact rfl; exact K0.out; exact rfl)
  (with_reducible refine HC.out.mono ?_)
  rintro e w1 ⟨rfl, hb1⟩
  have HB := Lib.hid (M0.out.call hb1).below
  clear hb1
  go_wp2
  go_ret2
  exact ⟨rfl, HB.out⟩

set_option maxHeartbeats 8000000 in
set_option maxRecDepth 100000 in
theorem loop_run_good (p : Pol) (hp : p.In) (T : Nat) (hT : T ≤ 1024) (q : Option Addr) (c n : Nat) (l : List Adv) (hl : ∀ a ∈ l, a.In) (en : l.length = n) (hb : n ≤ 9223372036854775807) (hok : Lp.err p T l = 0) (w : World) (hs : Advs w q l) :
    Calls Tryz.prog 6 #[.agg #[.int .i64 p.mn, .int .i64 p.mx, .int .i64 p.tg, .int .i64 p.tl, .int .i64 p.wi, .int .i64 p.ho], .int .i64 T, .slice q n c] w fun e w' => ∃ u, e = .returned (.tuple #[u, .int .i64 0]) ∧ Owns w' w.heap.size 5 u T (advVals (LS.at p (fun i => Shp.sum l i) T).rows) ∧ Below w.heap.size w w' := by
  have hpo : p.ok = true := by
    by_cases h : p.ok = true
    · exact h
    · unfold Lp.err at hok; rw [if_neg h] at hok; omega
  have M0 := Lib.hid ((Mem.start w).alloc (.cells #[.int .i64 p.mn, .int .i64 p.mx, .int .i64 p.tg, .int .i64 p.tl, .int .i64 p.wi, .int .i64 p.ho] 23))
  have HC := loop_check p T q c n l en hb _ (hs.below M0.out.below)
  rw [hok] at HC
  have HC := Lib.hid HC
  have K0 := Lib.hid (M0.out.heap 0 rfl)
  have N1 := ser_new 64 (by omega) (by omega)
  have N2 := hist_new 16 (by omega) (by omega)
  rw [show ((64 : Nat) : Int) = 64 from rfl] at N1
  rw [show ((16 : Nat) : Int) = 16 from rfl] at N2
  have N1 := Lib.hid N1
  have N2 := Lib.hid N2
  have HGOOD := Lib.hid (LS.good_at p hp hpo (fun i => Shp.sum l i) (fun i => Shp.sum_in l i))
  have HNX := Lib.hid (fun k => show LS.at p (fun i => Shp.sum l i) (k + 1) = LS.step p (Shp.sum l k) k (LS.at p (fun i => Shp.sum l i) k) from rfl)
  have HZ : Hid (LS.at p (fun i => Shp.sum l i) 0 = ⟨[], [], p.mn, 0, []⟩) := rfl
  have HSUM := Lib.hid (fun (t : Int) (ht : I64 t) (w : World) (h : Advs w q l) => shp_sum q c n l en hl hb t ht w h)
  have HSI := Lib.hid (fun t : Int => Shp.sum_in l t)
  have HS := Lib.hid hs
  have HP := Lib.hid hp
  have HPO := Lib.hid hpo
  obtain ⟨F, eF⟩ : ∃ F, F = LS.at p (fun i => Shp.sum l i) := ⟨_, rfl⟩
  simp only [← eF] at HGOOD HNX HZ ⊢
  clear eF hs hok hpo hl en
  go_enter Tryz.func6, Tryz.ntmps6
  go_wp2_with ((with_reducible refine wpList_load_rowAs rfl 23 _ rfl (w.heap.size) ?_ 23 #[.int .i64 p.mn, .int .i64 p.mx, .int .i64 p.tg, .int .i64 p.tl, .int .i64 p.wi, .int .i64 p.ho] (0, 0) _ 6 ?_ Tryz.underlying23 rfl (by kernel_rfl) ?_ ?_); exact rfl; exact K0.out; exact rfl)
  (with_reducible refine HC.out.mono ?_)
  rintro e w1 ⟨rfl, hb1⟩
  have M1 := Lib.hid (M0.out.call hb1)
  clear hb1 M0 K0 HC
  go_wp2_with fail
  have hst := stab_mem (w := w) (bs := [(w.heap.size, .cells #[.int .i64 p.mn, .int .i64 p.mx, .int .i64 p.tg, .int .i64 p.tl, .int .i64 p.wi, .int .i64 p.ho] 23)])
  refine wp_region_E mixed [] hst (M1.out.drewN 1) ?_
  refine wpAnyE_take 2 (v := .pointer (some ⟨w.heap.size, 0, none⟩)) rfl (by kernel_rfl) (by kernel_rfl) (by kernel_rfl) (fun _ _ _ h => h) hst (EffB.run rfl rfl (fun wd hS => ?_)) (.inr (EffB.run rfl rfl (fun wd hS => ?_))) ?_
  · (go_wp2; exact ⟨rfl, Below.refl _ _⟩)
  · (go_wp2; exact ⟨rfl, Below.refl _ _⟩)
  simp only [act_norm]
  refine wpAnyE_take 3 (v := .int .i64 p.mn) rfl (by kernel_rfl) (by kernel_rfl) (by kernel_rfl) (fun _ _ _ h => h) hst (EffB.run rfl rfl (fun wd hS => ?_)) (.inl (by kernel_rfl)) ?_
  · (have c2 : wd.cell? ⟨w.heap.size, 0, none⟩ = some (.int .i64 p.mn) := by rw [cell_of_row _ _ _ _ _ _ (hS.heap 0 rfl)]; rfl); go_wp2; exact ⟨rfl, Below.refl _ _⟩
  simp only [act_norm]
  refine wpAnyE_one 0 rfl (by kernel_rfl) rfl (fun wd hS => ?_)
  go_wp2_with fail
  (with_reducible refine (N1.out _).mono ?_)
  rintro e w2 ⟨s, rfl, hse, hb2⟩
  have hlt := hS.lt (i := 0) rfl
  have hstN := stab_and hst (stab_ser (B := w.heap.size + 1) (s := s) (v := .slice none 0 0) (room := 64) (L := []))
  refine ⟨_, ⟨hst _ _ hS hb2, hse.lift (by omega)⟩, hstN, (fun _ h => h.1), ?_⟩
  try simp only [act_norm]
  clear hS hse hb2 hlt hst
  have hst := hstN
  clear hstN
  refine wpAnyE_one 1 rfl (by kernel_rfl) rfl (fun wd hS => ?_)
  go_wp2_with fail
  (with_reducible refine (N2.out _).mono ?_)
  rintro e w3 ⟨h, r, rfl, hhi, hb3⟩
  have hlt := hS.2.lt
  have hlt0 := hS.2.low
  have hF3 : Fol w3 (w.heap.size + 1) s h r (.slice none 0 0) (.slice none 0 0) (.slice none 0 0) 64 16 ⟨[], [], []⟩ := by
    have hlo := hhi.low
    have hlr := hhi.ring.apart.2.1
    refine ⟨hS.2.below hb3, hhi.lift (by omega), owns_nil _ _ _, by omega, by omega, ?_, ?_, ?_⟩ <;> (intro k hk; simp [Value.ownBlock] at hk)
  have hstN := stab_and (stab_fol (B := w.heap.size + 1) (s := s) (h := h) (r := r) (vs := .slice none 0 0) (vh := .slice none 0 0) (u := .slice none 0 0) (sa := 64) (ro := 16) (f := ⟨[], [], []⟩)) (stab_mem (w := w) (bs := [(w.heap.size, .cells #[.int .i64 p.mn, .int .i64 p.mx, .int .i64 p.tg, .int .i64 p.tl, .int .i64 p.wi, .int .i64 p.ho] 23)]))
  refine ⟨_, ⟨hF3, hS.1.call hb3⟩, hstN, (fun _ h => ⟨h.2, h.1.ser⟩), ?_⟩
  try simp only [act_norm]
  clear hS hhi hb3 hlt hlt0 hst hF3
  have hst := hstN
  clear hstN
  refine wpAnyE_take 4 (v := .agg #[.pointer (some ⟨s, 0, none⟩), .pointer (some ⟨h, 0, none⟩), .int .i64 p.mn, .int .i64 0]) rfl (by kernel_rfl) (by kernel_rfl) (by kernel_rfl) (fun _ _ _ h => h) hst (EffB.run rfl rfl (fun wd hS => ?_)) (.inr (EffB.run rfl rfl (fun wd hS => ?_))) ?_
  · (go_wp2; exact ⟨rfl, Below.refl _ _⟩)
  · (go_wp2; exact ⟨rfl, Below.refl _ _⟩)
  simp only [act_norm]
  refine wpAnyE_one 5 rfl (by kernel_rfl) rfl (fun wd hS => ?_)
  have hoff := (hS.1.off (X := wd.heap.size) (Nat.le_refl _))
  have hge : w.heap.size + 1 ≤ wd.heap.size := by have := hS.2.lt (i := 0) rfl; omega
  have hstN := stab_and (stab_fol (B := w.heap.size + 1) (s := s) (h := h) (r := r) (vs := .slice none 0 0) (vh := .slice none 0 0) (u := .slice none 0 0) (sa := 64) (ro := 16) (f := ⟨[], [], []⟩)) (stab_mem (w := w) (bs := [(w.heap.size, .cells #[.int .i64 p.mn, .int .i64 p.mx, .int .i64 p.tg, .int .i64 p.tl, .int .i64 p.wi, .int .i64 p.ho] 23), (wd.heap.size, .cells #[.pointer (some ⟨s, 0, none⟩), .pointer (some ⟨h, 0, none⟩), .int .i64 p.mn, .int .i64 0] 52)]))
  have X4 := Lib.hid (And.intro (hS.1.below (below1 wd (.cells #[.pointer (some ⟨s, 0, none⟩), .pointer (some ⟨h, 0, none⟩), .int .i64 p.mn, .int .i64 0] 52))) (hS.2.alloc (.cells #[.pointer (some ⟨s, 0, none⟩), .pointer (some ⟨h, 0, none⟩), .int .i64 p.mn, .int .i64 0] 52)))
  clear hS
  go_wp2
  refine ⟨_, X4.out, hstN, (by first | exact (fun _ h => ⟨h.1, h.2.init⟩) | exact .inr (fun _ h => ⟨h.1, h.2.init⟩)), ?_⟩
  obtain ⟨st, hX⟩ : ∃ X, wd.heap.size = X := ⟨_, rfl⟩
  rw [hX] at hstN hoff hge ⊢
  clear X4 hX hst
  try simp only [act_norm]
  have hst := hstN
  clear hstN
  refine wpAnyE_take 6 rfl (by kernel_rfl) (by kernel_rfl) (by kernel_rfl) (fun _ _ _ h => h) hst (EffB.pure rfl (fun _ => rfl)) (.inr (EffB.pure rfl (fun _ => rfl))) ?_
  simp only [act_norm]
  refine wpAnyE_done (by kernel_rfl) (fun wd hS => ?_) _
  have F4 := Lib.hid hS.1
  have M4 := Lib.hid hS.2
  clear hS hst M1 N1 N2
  go_wp2
  go_loopw [10, 27] (fun o i wr => ∃ (k : Nat) (vs vh uo : Value), k ≤ T ∧ i = .int .i64 (k : Nat) ∧ o = uo ∧ Fol wr (w.heap.size + 1) s h r vs vh uo 64 16 ⟨(F k).sam, (F k).past, (F k).rows⟩ ∧ Mem w wr [(w.heap.size, .cells #[.int .i64 p.mn, .int .i64 p.mx, .int .i64 p.tg, .int .i64 p.tl, .int .i64 p.wi, .int .i64 p.ho] 23), (st, .cells #[.pointer (some ⟨s, 0, none⟩), .pointer (some ⟨h, 0, none⟩), .int .i64 (F k).repl, .int .i64 (F k).left] 52)] ∧ Off st s h r vs vh uo) (fun _ i _ => T - (intOf i).toNat)
  case atStart => exact ⟨0, _, _, _, by omega, rfl, rfl, by rw [HZ.out]; exact F4.out, by rw [HZ.out]; exact M4.out, hoff⟩
  case round =>
    obtain ⟨k, vs, vh, uo, hk, rfl, rfl, hF, hM, hO⟩ := hrel
    clear F4 M4 hoff HZ
    by_cases hlt : k < T
    · have hg := HGOOD.out k (by omega)
      have hg2 := hg.rows
      have hnx := HNX.out k
      have P1 := HSUM.out k ⟨by omega, by omega⟩
      have hsi := HSI.out k
      obtain ⟨cm, ecm⟩ : ∃ c, c = Shp.sum l k := ⟨_, rfl⟩
      rw [← ecm] at P1 hsi hnx
      obtain ⟨f, ef⟩ : ∃ f, f = F k := ⟨_, rfl⟩
      rw [← ef] at hg hg2 hnx hF hM
      obtain ⟨f2, ef2⟩ : ∃ f, f = F (k + 1) := ⟨_, rfl⟩
      rw [← ef2] at hnx
      have P2 := fun (W : World) hF hM => loop_turn (w0 := w) (w := W) (B := w.heap.size + 1) (P0 := w.heap.size) (st := st) (s := s) (h := h) (r := r) (vs := vs) (vh := vh) (u := u10) (f := f) p HP.out HPO.out k (by omega) hg cm hsi.1 hsi.2 hF hM (by omega) (by omega) hO
      have EF2 := Lib.hid ef2
      have P1 := Lib.hid P1
      have P2 := Lib.hid P2
      have HNX2 := Lib.hid hnx
      obtain ⟨rw', erw⟩ : ∃ x, x = LS.row p cm k f := ⟨_, rfl⟩
      obtain ⟨r0, r1, r2, r3, r4⟩ := rw'
      have HFM := Lib.hid (And.intro hF hM)
      have hst := stab_and (stab_and (stab_fol (B := w.heap.size + 1) (s := s) (h := h) (r := r) (vs := vs) (vh := vh) (u := u10) (sa := 64) (ro := 16) (f := ⟨f.sam, f.past, f.rows⟩)) (stab_mem (w := w) (bs := [(w.heap.size, .cells #[.int .i64 p.mn, .int .i64 p.mx, .int .i64 p.tg, .int .i64 p.tl, .int .i64 p.wi, .int .i64 p.ho] 23), (st, .cells #[.pointer (some ⟨s, 0, none⟩), .pointer (some ⟨h, 0, none⟩), .int .i64 f.repl, .int .i64 f.left] 52)]))) (stab_advs (q := q) (l := l))
      have HAD := Lib.hid (HS.out.below hM.below)
      have ERW := Lib.hid erw
      clear hF hM hnx ef ef2 ecm erw hg
      go_wp2_with fail
      refine wp_region_E mixed [7, 9] hst ⟨⟨HFM.out.1.below (below_drew (Below.refl _ _)), HFM.out.2.drewN 1⟩, HAD.out.below (below_drew (Below.refl _ _))⟩ ?_
      refine wpAnyE_take 0 rfl (by kernel_rfl) (by kernel_rfl) (by kernel_rfl) (fun _ _ _ h => h) hst (EffB.pure rfl (fun _ => rfl)) (.inr (EffB.pure rfl (fun _ => rfl))) ?_
      simp only [act_norm]
      refine wpAnyE_take 1 rfl (by kernel_rfl) (by kernel_rfl) (by kernel_rfl) (fun _ _ _ h => h) hst (EffB.pure rfl (fun _ => rfl)) (.inr (EffB.pure rfl (fun _ => rfl))) ?_
      simp only [act_norm]
      refine wpAnyE_take 2 (v := .agg #[.int .i64 p.mn, .int .i64 p.mx, .int .i64 p.tg, .int .i64 p.tl, .int .i64 p.wi, .int .i64 p.ho]) rfl (by kernel_rfl) (by kernel_rfl) (by kernel_rfl) (fun _ _ _ h => h) hst (EffB.run rfl rfl (fun wd hS => ?_)) (.inl (by kernel_rfl)) ?_
      · exact wp_load_row 23 _ rfl (w.heap.size) rfl 23 #[.int .i64 p.mn, .int .i64 p.mx, .int .i64 p.tg, .int .i64 p.tl, .int .i64 p.wi, .int .i64 p.ho] (0, 0) _ (hS.1.2.heap 0 rfl) Tryz.underlying23 rfl (by kernel_rfl) ⟨rfl, Below.refl _ _⟩
      simp only [act_norm]
      refine wpAnyE_take 3 rfl (by kernel_rfl) (by kernel_rfl) (by kernel_rfl) (fun _ _ _ h => h) hst (EffB.pure rfl (fun _ => rfl)) (.inr (EffB.pure rfl (fun _ => rfl))) ?_
      simp only [act_norm]
      refine wpAnyE_take 4 rfl (by kernel_rfl) (by kernel_rfl) (by kernel_rfl) (fun _ _ _ h => h) hst (EffB.pure rfl (fun _ => rfl)) (.inr (EffB.pure rfl (fun _ => rfl))) ?_
      simp only [act_norm]
      refine wpAnyE_take 5 rfl (by kernel_rfl) (by kernel_rfl) (by kernel_rfl) (fun _ _ _ h => h) hst (EffB.pure rfl (fun _ => rfl)) (.inr (EffB.pure rfl (fun _ => rfl))) ?_
      simp only [act_norm]
      refine wpAnyE_take 6 (v := .int .i64 cm) rfl (by kernel_rfl) (by kernel_rfl) (by kernel_rfl) (fun _ _ _ h => h) hst (EffB.run rfl rfl (fun wd hS => ?_)) (.inl (by kernel_rfl)) ?_
      · (go_wp2_with fail; (with_reducible refine (P1.out wd hS.2).mono ?_); rintro e w'' ⟨rfl, hb⟩; exact ⟨rfl, hb⟩)
      simp only [act_norm]
      refine wpAnyE_one 7 rfl (by kernel_rfl) rfl (fun wd hS => ?_)
      have P3 := P2.out wd hS.1.1 hS.1.2
      rw [← ERW.out] at P3
      go_wp2_with fail
      (with_reducible refine P3.mono ?_)
      rintro e w5 ⟨rfl, vs5, vh5, hF5, hM5, hO5⟩
      have hstN := stab_and (stab_fol (B := w.heap.size + 1) (s := s) (h := h) (r := r) (vs := vs5) (vh := vh5) (u := u10) (sa := 64) (ro := 16) (f := ⟨LS.sam' cm k f, Ring.next 16 f.past (LS.adv p cm k f), f.rows⟩)) (stab_mem (w := w) (bs := [(w.heap.size, .cells #[.int .i64 p.mn, .int .i64 p.mx, .int .i64 p.tg, .int .i64 p.tl, .int .i64 p.wi, .int .i64 p.ho] 23), (st, .cells #[.pointer (some ⟨s, 0, none⟩), .pointer (some ⟨h, 0, none⟩), .int .i64 (LS.step p cm k f).repl, .int .i64 (LS.step p cm k f).left] 52)]))
      refine ⟨_, ⟨hF5, hM5⟩, hstN, ?_⟩
      try simp only [act_norm]
      clear hS hF5 hM5 hst P3 hO
      have hst := hstN
      clear hstN
      refine wpAnyE_one 8 rfl (by kernel_rfl) rfl (fun wd hS => ?_)
      have hstN := stab_and (stab_fol (B := w.heap.size + 1) (s := s) (h := h) (r := r) (vs := vs5) (vh := vh5) (u := u10) (sa := 64) (ro := 16) (f := ⟨LS.sam' cm k f, Ring.next 16 f.past (LS.adv p cm k f), f.rows⟩)) (stab_mem (w := w) (bs := [(w.heap.size, .cells #[.int .i64 p.mn, .int .i64 p.mx, .int .i64 p.tg, .int .i64 p.tl, .int .i64 p.wi, .int .i64 p.ho] 23), (st, .cells #[.pointer (some ⟨s, 0, none⟩), .pointer (some ⟨h, 0, none⟩), .int .i64 (LS.step p cm k f).repl, .int .i64 (LS.step p cm k f).left] 52), (wd.heap.size, .cells #[.int .i64 r0, .int .i64 r1, .int .i64 r2, .int .i64 r3, .int .i64 r4] 39)]))
      have Y1 := Lib.hid (And.intro (hS.1.below (below1 wd (.cells #[.int .i64 r0, .int .i64 r1, .int .i64 r2, .int .i64 r3, .int .i64 r4] 39))) (hS.2.alloc (.cells #[.int .i64 r0, .int .i64 r1, .int .i64 r2, .int .i64 r3, .int .i64 r4] 39)))
      have hlw := hS.1.low.2.2
      have hwd : w.heap.size + 1 ≤ wd.heap.size := by have := hS.2.lt (i := 0) rfl; omega
      have hsd : st < wd.heap.size := hS.2.lt (i := 1) rfl
      clear hS
      go_wp2
      refine ⟨_, Y1.out, hstN, (by first | exact (fun _ h => ⟨h.1, h.2.init⟩) | exact .inr (fun _ h => ⟨h.1, h.2.init⟩)), ?_⟩
      obtain ⟨Z, hZ⟩ : ∃ Z, wd.heap.size = Z := ⟨_, rfl⟩
      rw [hZ] at hstN hlw hwd hsd ⊢
      clear Y1 hst hZ
      try simp only [act_norm]
      have hst := hstN
      clear hstN
      refine wpAnyE_one 9 rfl (by kernel_rfl) rfl (fun wd hS => ?_)
      have cX : ∀ (j : Nat) (x : Value), (advVals [(⟨r0, r1, r2, r3, r4⟩ : Adv)])[j]? = some x → wd.cell? ⟨Z, j, none⟩ = some x := fun j x hu => by
        rw [cell_of_row _ _ _ _ _ _ (hS.2.heap 2 rfl)]
        simpa [advVals] using hu
      have hown : Owns wd (w.heap.size + 1) 5 u10 k (advVals f.rows) := by have := hS.1.out; rw [← hg2]; exact this
      have hsz : w.heap.size + 1 ≤ wd.heap.size := by have := hS.2.lt (i := 0) rfl; omega
      refine wp_append_anyL _ _ 28 rfl (w.heap.size + 1) 39 (.agg #[.int .i64 0, .int .i64 0, .int .i64 0, .int .i64 0, .int .i64 0]) 5 40 Tryz.underlying28 rowInfo rfl (by decide) u10 k (advVals f.rows) rfl hown (some ⟨Z, 0, none⟩) 1 1 (advVals [(⟨r0, r1, r2, r3, r4⟩ : Adv)]) rfl rfl (by simp) (fun ad had j x hu => by cases had; rw [Addr.add_mid, Nat.zero_add]; exact cX j x hu) (advVals_one1 _) (by unfold maxLen; omega) (by omega) hsz (fun u1 wx ha1 hg1 hw1 => ?_)
      have hO1 : Owns wx (w.heap.size + 1) 5 u1 (f.rows ++ [(⟨r0, r1, r2, r3, r4⟩ : Adv)]).length (advVals (f.rows ++ [(⟨r0, r1, r2, r3, r4⟩ : Adv)])) := by
        rw [List.length_append, advVals_append, hg2]; exact ha1
      have hF6 := hS.1.app hO1 hg1 hw1
      have hT6 : Turned (fun x => u10.ownBlock = some x) wd wx := Turned.refl.grown hg1 (fun x hx _ => hx)
      have hM6 := (hS.2.init (bs := [(w.heap.size, .cells #[.int .i64 p.mn, .int .i64 p.mx, .int .i64 p.tg, .int .i64 p.tl, .int .i64 p.wi, .int .i64 p.ho] 23), (st, .cells #[.pointer (some ⟨s, 0, none⟩), .pointer (some ⟨h, 0, none⟩), .int .i64 (LS.step p cm k f).repl, .int .i64 (LS.step p cm k f).left] 52)]) (cs := [_])).turnedL (B := w.heap.size + 1) (N := Z) (st := st) hT6 (fun x hx => ⟨(hlw x hx).1, (hlw x hx).2, fun e => by subst e; exact hO5.u hx⟩) (by omega) (fun i x o hi => by rcases i with _ | _ | i <;> simp at hi <;> omega)
      have hO6 := hO5.append (hS.2.lt (i := 1) rfl) hw1
      have hstN := stab_and (stab_and (stab_fol (B := w.heap.size + 1) (s := s) (h := h) (r := r) (vs := vs5) (vh := vh5) (u := u1) (sa := 64) (ro := 16) (f := ⟨LS.sam' cm k f, Ring.next 16 f.past (LS.adv p cm k f), f.rows ++ [(⟨r0, r1, r2, r3, r4⟩ : Adv)]⟩)) (stab_mem (w := w) (bs := [(w.heap.size, .cells #[.int .i64 p.mn, .int .i64 p.mx, .int .i64 p.tg, .int .i64 p.tl, .int .i64 p.wi, .int .i64 p.ho] 23), (st, .cells #[.pointer (some ⟨s, 0, none⟩), .pointer (some ⟨h, 0, none⟩), .int .i64 (LS.step p cm k f).repl, .int .i64 (LS.step p cm k f).left] 52)]))) (stab_prop (q := Off st s h r vs5 vh5 u1))
      refine ⟨_, ⟨⟨hF6, hM6⟩, hO6⟩, hstN, .inl (by decide), ?_⟩
      clear hS cX hown ha1 hg1 hw1 hst hO1 hF6 hT6 hM6 hO6
      try simp only [act_norm]
      have hst := hstN
      clear hstN
      refine wpAnyE_take 10 rfl (by kernel_rfl) (by kernel_rfl) (by kernel_rfl) (fun _ _ _ h => h) hst (EffB.pure rfl (fun _ => rfl)) (.inr (EffB.pure rfl (fun _ => rfl))) ?_
      simp only [act_norm]
      refine wpAnyE_done (by kernel_rfl) (fun wd hS => ?_) _
      have HF := Lib.hid hS
      have hfs : f2 = ⟨LS.sam' cm k f, Ring.next 16 f.past (LS.adv p cm k f), (LS.step p cm k f).repl, (LS.step p cm k f).left, f.rows ++ [(⟨r0, r1, r2, r3, r4⟩ : Adv)]⟩ := by rw [HNX2.out, ERW.out]; rfl
      have HFS := Lib.hid hfs
      clear hS hst hfs
      go_wp2
      exact ⟨⟨k + 1, _, _, _, by omega, by go_num, rfl, by rw [← EF2.out, HFS.out]; exact HF.out.1.1, by rw [← EF2.out, HFS.out]; exact HF.out.1.2, HF.out.2⟩, by simp [intOf]; omega⟩
    · obtain rfl : k = T := by omega
      have ho := hF.out
      have hg2 := (HGOOD.out k (by omega)).rows
      have HO : Hid (Owns wr w.heap.size 5 u10 k (advVals (F k).rows)) := by
        have h1 : Owns wr (w.heap.size + 1) 5 u10 (F k).rows.length (advVals (F k).rows) := ho
        rw [hg2] at h1
        exact h1.mono (by omega)
      have HB := Lib.hid hM.below
      clear hF hM hO ho hg2
      go_wp2
      go_ret2
      exact ⟨_, rfl, HO.out, HB.out⟩
end Go.Proofs.YtldhbgefpfmkmaaGreat
