/- Layer 55: a tick: the program's. -/
import Derived.Test.YtldhbgefpfmkmaaGreatJShape3
import Derived.Test.YtldhbgefpfmkmaaGreatJFol2
namespace Go.Proofs.YtldhbgefpfmkmaaGreat
open Go.ChangeShapes Go.WideShapes Go.ChangeAt Go.RowKit

/-- A block that is none of those of a series, a history and a list. -/
structure Off (X s h r : Nat) (vs vh u : Value) : Prop where
  s : X ≠ s
  h : X ≠ h
  r : X ≠ r
  vs : vs.ownBlock ≠ some X
  vh : vh.ownBlock ≠ some X
  u : u.ownBlock ≠ some X
section
variable {w w' : World} {B s h r : Nat} {vs vh u vs' vh' : Value} {sa ro : Nat} {f : FS}
theorem Fol.turnX (F : Fol w B s h r vs vh u sa ro f) {S : Nat → Prop} (ht : Turned S w w') (hS : ∀ X, S X → Off X s h r vs vh u) : Fol w' B s h r vs vh u sa ro f :=
  ⟨F.ser.turned ht (fun e => (hS _ e).s rfl) (fun k hk e => (hS _ e).vs hk), F.his.turned ht (fun e => (hS _ e).h rfl) (fun e => (hS _ e).r rfl) (fun k hk e => (hS _ e).vh hk),
    F.out.same ht.size (fun k hk => ht.block k (F.out.lt k hk).2 (fun e => (hS _ e).u hk)), F.sh, F.sr, F.vsx, F.vhx, F.ux⟩
theorem Fol.off (F : Fol w B s h r vs vh u sa ro f) {X : Nat} (hX : w.heap.size ≤ X) : Off X s h r vs vh u := by
  have h1 := F.ser.lt
  have h2 := lt_of_heap F.his.row
  have h3 := F.his.ring.lt
  exact ⟨by omega, by omega, by omega, fun e => by have := F.ser.owns.lt _ e; omega, fun e => by have := h3.2 _ e; omega, fun e => by have := F.out.lt _ e; omega⟩
theorem Fol.setc (F : Fol w B s h r vs vh u sa ro f) {X : Nat} (hX : Off X s h r vs vh u) (j : Nat) (v : Value) : Fol (w.setCell ⟨X, j, none⟩ v) B s h r vs vh u sa ro f :=
  F.turnX (S := fun k => k = X) (Turned.refl.setCell v (fun _ => rfl)) (fun Y e => by have e2 : Y = X := e; rw [e2]; exact hX)
theorem Fol.setr (F : Fol w B s h r vs vh u sa ro f) {X : Nat} (hX : Off X s h r vs vh u) (cs : Array Value) : Fol (w.setRow X cs) B s h r vs vh u sa ro f :=
  F.turnX (S := fun k => k = X) (turned_setRow w X cs) (fun Y e => by have e2 : Y = X := e; rw [e2]; exact hX)
theorem Off.putS {X n : Nat} (h0 : Off X s h r vs vh u) (hX : X < n) (hv : ∀ k, vs'.ownBlock = some k → vs.ownBlock = some k ∨ n ≤ k) : Off X s h r vs' vh u :=
  ⟨h0.s, h0.h, h0.r, fun e => by rcases hv _ e with h1 | h1; exact h0.vs h1; omega, h0.vh, h0.u⟩
theorem Off.putH {X n : Nat} (h0 : Off X s h r vs vh u) (hX : X < n) (hv : ∀ k, vh'.ownBlock = some k → vh.ownBlock = some k ∨ n ≤ k) : Off X s h r vs vh' u :=
  ⟨h0.s, h0.h, h0.r, h0.vs, fun e => by rcases hv _ e with h1 | h1; exact h0.vh h1; omega, h0.u⟩
end
/-- Blocks of one's own stay when a series or a history is turned. -/
theorem Mem.turnedL {S : Nat → Prop} {w w' w'' : World} {bs : List (Nat × Obj)} {B N st : Nat} (h : Mem w w' bs) (ht : Turned S w' w'') (hS : ∀ k, S k → B ≤ k ∧ k < N ∧ k ≠ st) (hB : w.heap.size ≤ B) (hbs : ∀ (i c : Nat) (o : Obj), bs[i]? = some (c, o) → c < B ∨ c = st ∨ N ≤ c) : Mem w w'' bs :=
  h.turnedF ht (fun k hk => by
    obtain ⟨h1, h2, h3⟩ := hS k hk
    exact ⟨by omega, fun i o hi => by rcases hbs i k o hi with e | e | e <;> omega⟩)

theorem stab_prop {q : Prop} : Stab (fun _ => q) := fun _ _ h _ => h
set_option maxHeartbeats 8000000 in
set_option maxRecDepth 100000 in
theorem loop_turn {w0 w : World} {B P0 st s h r : Nat} {vs vh u : Value} {f : LS} (p : Pol) (hp : p.In) (hok : p.ok = true) (k : Nat) (hk : k ≤ 2000) (hg : LS.Good p k f) (c : Int) (hc : 0 ≤ c) (hc2 : c ≤ 9223372036854775807)
    (F : Fol w B s h r vs vh u 64 16 ⟨f.sam, f.past, f.rows⟩) (M : Mem w0 w [(P0, .cells #[.int .i64 p.mn, .int .i64 p.mx, .int .i64 p.tg, .int .i64 p.tl, .int .i64 p.wi, .int .i64 p.ho] 23), (st, .cells #[.pointer (some ⟨s, 0, none⟩), .pointer (some ⟨h, 0, none⟩), .int .i64 f.repl, .int .i64 f.left] 52)]) (hP : P0 < B) (hB0 : w0.heap.size ≤ B) (hst : Off st s h r vs vh u) :
    Calls Tryz.prog 14 #[.pointer (some ⟨st, 0, none⟩), .agg #[.int .i64 p.mn, .int .i64 p.mx, .int .i64 p.tg, .int .i64 p.tl, .int .i64 p.wi, .int .i64 p.ho], .int .i64 k, .int .i64 c] w fun e w' => e = .returned (.agg #[.int .i64 (LS.row p c k f).tick, .int .i64 (LS.row p c k f).load, .int .i64 (LS.row p c k f).want, .int .i64 (LS.row p c k f).repl, .int .i64 (LS.row p c k f).why]) ∧ ∃ vs' vh',
      Fol w' B s h r vs' vh' u 64 16 ⟨LS.sam' c k f, Ring.next 16 f.past (LS.adv p c k f), f.rows⟩ ∧ Mem w0 w' [(P0, .cells #[.int .i64 p.mn, .int .i64 p.mx, .int .i64 p.tg, .int .i64 p.tl, .int .i64 p.wi, .int .i64 p.ho] 23), (st, .cells #[.pointer (some ⟨s, 0, none⟩), .pointer (some ⟨h, 0, none⟩), .int .i64 (LS.step p c k f).repl, .int .i64 (LS.step p c k f).left] 52)] ∧ Off st s h r vs' vh' u := by
  have hgn := LS.good_step hp hok hg (by omega) hc hc2
  have hall := LS.all_in (f := f) hg.l0 hc
  have hsv := LS.serves_in (f := f) (p := p) (c := c) hok hg.r1 hg.l0 hc
  have hsd : LS.serves p c f = min (LS.all c f) (Sat.clamp (f.repl * p.tg)) := rfl
  have hcode : Ser.code ⟨(k : Int), LS.all c f⟩ = 0 := by unfold Ser.code; rw [if_neg (by show ¬ (k : Int) < 0; omega), if_neg (by show ¬ LS.all c f < 0; omega)]
  have hq : (LS.sam' c k f).length ≠ 0 := Ser.put_pos _ (by omega) _
  obtain ⟨eof, eer⟩ := Dec.of_some (l := LS.sam' c k f) (past := f.past) hok hq
  have hfi := Pol.fine hok
  have HADD := Lib.hid (sat_add f.left c (by unfold I64; have := hg.l0; have := hg.l1; omega) (by unfold I64; omega))
  have HMUL := Lib.hid (sat_mul f.repl p.tg (by have h1 := hg.r1; have h2 := hg.r2; unfold I64; have := hfi.1; have := hfi.2.2.1; omega) hp.2.2.1)
  have hD := (fun (sp : Option Addr) (sc : Nat) (qq : Option Addr) (qc : Nat) (W : World) (g1 : Samps W sp (LS.sam' c k f)) (g2 : Advs W qq f.past) => decide_of p hp sp sc (LS.sam' c k f) hgn.In (by have h1 := hgn.len; have h2 : (LS.sam' c k f).length ≤ 64 := h1; omega) qq qc f.past hg.pastIn (by have := hg.past; omega) (LS.adv p c k f) rfl W g1 g2)
  simp only [eer] at hD
  have hrw : LS.row p c k f = ⟨k, c, f.repl, LS.serves p c f, LS.all c f - LS.serves p c f⟩ := rfl
  have hse : LS.sam' c k f = Ser.put f.sam 64 ⟨(k : Int), LS.all c f⟩ := rfl
  have hlr : (LS.step p c k f).repl = (LS.adv p c k f).repl := rfl
  have hll : (LS.step p c k f).left = LS.all c f - LS.serves p c f := rfl
  rw [hrw, hlr, hll]
  clear hrw hlr hll eof eer hq hgn hfi hok hp
  have ea : LS.all c f = Sat.clamp (f.left + c) := rfl
  rw [← ea] at HADD
  clear ea
  obtain ⟨S, eS⟩ : ∃ S, S = LS.sam' c k f := ⟨_, rfl⟩
  obtain ⟨o, eo⟩ : ∃ o, o = LS.adv p c k f := ⟨_, rfl⟩
  obtain ⟨a, ea⟩ : ∃ a, a = LS.all c f := ⟨_, rfl⟩
  obtain ⟨sv, esv⟩ : ∃ a, a = LS.serves p c f := ⟨_, rfl⟩
  rw [← eS] at hse ⊢
  simp only [← eS] at hD
  rw [← eo] at ⊢
  simp only [← eo] at hD
  rw [← ea] at hall hsv hsd hcode HADD hse ⊢
  rw [← esv] at hsv hsd ⊢
  obtain ⟨sam, past, rp, lf, rows⟩ := f
  clear eS eo ea esv hg
  simp only at *
  obtain ⟨m, em⟩ : ∃ a, a = Sat.clamp (rp * p.tg) := ⟨_, rfl⟩
  rw [← em] at hsd HMUL
  obtain ⟨l2, el2⟩ : ∃ x, a - sv = x := ⟨_, rfl⟩
  rw [el2]
  obtain ⟨ot, ol, ow, orr, oy⟩ := o
  simp only at hD ⊢
  obtain ⟨ls, els⟩ : ∃ n, n = S.length := ⟨_, rfl⟩
  obtain ⟨lp, elp⟩ : ∃ n, n = past.length := ⟨_, rfl⟩
  simp only [← els, ← elp] at hD
  have HD := Lib.hid hD
  have ELS := Lib.hid els
  have ELP := Lib.hid elp
  have HSV := Lib.hid hsd
  have HCODE := Lib.hid hcode
  have HSE := Lib.hid hse
  have hlow := F.low
  have hBw : B ≤ w.heap.size := by have h1 := F.ser.low; have h2 := F.ser.lt; omega
  have hstw : st < w.heap.size := M.lt (i := 1) rfl
  have OFF := Lib.hid hst
  have OFX := Lib.hid (F.off (X := w.heap.size + 2) (by omega))
  have OFR := Lib.hid (F.off (X := w.heap.size + 1) (by omega))
  have M3 : Hid (Mem w0 (((w.alloc (.cells #[.int .i64 p.mn, .int .i64 p.mx, .int .i64 p.tg, .int .i64 p.tl, .int .i64 p.wi, .int .i64 p.ho] 23)).alloc (.cells #[.int .i64 0, .int .i64 0, .int .i64 0, .int .i64 0, .int .i64 0] 39)).alloc (.cells #[.int .i64 k, .int .i64 c, .int .i64 rp, .int .i64 0, .int .i64 0] 39)) [(P0, .cells #[.int .i64 p.mn, .int .i64 p.mx, .int .i64 p.tg, .int .i64 p.tl, .int .i64 p.wi, .int .i64 p.ho] 23), (st, .cells #[.pointer (some ⟨s, 0, none⟩), .pointer (some ⟨h, 0, none⟩), .int .i64 rp, .int .i64 lf] 52), (w.heap.size, .cells #[.int .i64 p.mn, .int .i64 p.mx, .int .i64 p.tg, .int .i64 p.tl, .int .i64 p.wi, .int .i64 p.ho] 23), (w.heap.size + 1, .cells #[.int .i64 0, .int .i64 0, .int .i64 0, .int .i64 0, .int .i64 0] 39), (w.heap.size + 2, .cells #[.int .i64 k, .int .i64 c, .int .i64 rp, .int .i64 0, .int .i64 0] 39)]) :=
    (((M.allocAs w.heap.size (.cells #[.int .i64 p.mn, .int .i64 p.mx, .int .i64 p.tg, .int .i64 p.tl, .int .i64 p.wi, .int .i64 p.ho] 23) rfl).allocAs (w.heap.size + 1) (.cells #[.int .i64 0, .int .i64 0, .int .i64 0, .int .i64 0, .int .i64 0] 39) (by simp)).allocAs (w.heap.size + 2) (.cells #[.int .i64 k, .int .i64 c, .int .i64 rp, .int .i64 0, .int .i64 0] 39) (by simp) :)
  have F3 := Lib.hid (F.below (below3 w (.cells #[.int .i64 p.mn, .int .i64 p.mx, .int .i64 p.tg, .int .i64 p.tl, .int .i64 p.wi, .int .i64 p.ho] 23) (.cells #[.int .i64 0, .int .i64 0, .int .i64 0, .int .i64 0, .int .i64 0] 39) (.cells #[.int .i64 k, .int .i64 c, .int .i64 rp, .int .i64 0, .int .i64 0] 39)))
  have M2 : Hid (Mem w0 ((w.alloc (.cells #[.int .i64 p.mn, .int .i64 p.mx, .int .i64 p.tg, .int .i64 p.tl, .int .i64 p.wi, .int .i64 p.ho] 23)).alloc (.cells #[.int .i64 0, .int .i64 0, .int .i64 0, .int .i64 0, .int .i64 0] 39)) [(P0, .cells #[.int .i64 p.mn, .int .i64 p.mx, .int .i64 p.tg, .int .i64 p.tl, .int .i64 p.wi, .int .i64 p.ho] 23), (st, .cells #[.pointer (some ⟨s, 0, none⟩), .pointer (some ⟨h, 0, none⟩), .int .i64 rp, .int .i64 lf] 52), (w.heap.size, .cells #[.int .i64 p.mn, .int .i64 p.mx, .int .i64 p.tg, .int .i64 p.tl, .int .i64 p.wi, .int .i64 p.ho] 23), (w.heap.size + 1, .cells #[.int .i64 0, .int .i64 0, .int .i64 0, .int .i64 0, .int .i64 0] 39)]) :=
    ((M.allocAs w.heap.size (.cells #[.int .i64 p.mn, .int .i64 p.mx, .int .i64 p.tg, .int .i64 p.tl, .int .i64 p.wi, .int .i64 p.ho] 23) rfl).allocAs (w.heap.size + 1) (.cells #[.int .i64 0, .int .i64 0, .int .i64 0, .int .i64 0, .int .i64 0] 39) (by simp) :)
  have c2 := M2.out.cell 1 2 rfl rfl
  have c3 := M2.out.cell 1 3 rfl rfl
  clear hsd hcode hse hD els elp M F hst em
  go_enter Tryz.func14, Tryz.ntmps14
  go_wp2_with ((with_reducible refine (HADD.out _).mono ?_); rintro e w1 ⟨rfl, rfl⟩)
  have hst := stab_and (stab_fol (B := B) (s := s) (h := h) (r := r) (vs := vs) (vh := vh) (u := u) (sa := 64) (ro := 16) (f := ⟨sam, past, rows⟩)) (stab_mem (w := w0) (bs := [(P0, .cells #[.int .i64 p.mn, .int .i64 p.mx, .int .i64 p.tg, .int .i64 p.tl, .int .i64 p.wi, .int .i64 p.ho] 23), (st, .cells #[.pointer (some ⟨s, 0, none⟩), .pointer (some ⟨h, 0, none⟩), .int .i64 rp, .int .i64 lf] 52), (w.heap.size, .cells #[.int .i64 p.mn, .int .i64 p.mx, .int .i64 p.tg, .int .i64 p.tl, .int .i64 p.wi, .int .i64 p.ho] 23), (w.heap.size + 1, .cells #[.int .i64 0, .int .i64 0, .int .i64 0, .int .i64 0, .int .i64 0] 39), (w.heap.size + 2, .cells #[.int .i64 k, .int .i64 c, .int .i64 rp, .int .i64 0, .int .i64 0] 39)]))
  clear c2 c3 M2
  refine wp_region_E mixed [10] hst ⟨F3.out.below (below_drew (Below.refl _ _)), M3.out.drewN 1⟩ ?_
  refine wpAnyE_take 0 rfl (by kernel_rfl) (by kernel_rfl) (by kernel_rfl) (fun _ _ _ h => h) hst (EffB.pure rfl (fun _ => rfl)) (.inr (EffB.pure rfl (fun _ => rfl))) ?_
  simp only [act_norm]
  refine wpAnyE_take 1 rfl (by kernel_rfl) (by kernel_rfl) (by kernel_rfl) (fun _ _ _ h => h) hst (EffB.pure rfl (fun _ => rfl)) (.inr (EffB.pure rfl (fun _ => rfl))) ?_
  simp only [act_norm]
  refine wpAnyE_take 2 (v := .pointer (some ⟨st, 0, none⟩)) rfl (by kernel_rfl) (by kernel_rfl) (by kernel_rfl) (fun _ _ _ h => h) hst (EffB.run rfl rfl (fun wd hS => ?_)) (.inr (EffB.run rfl rfl (fun wd hS => ?_))) ?_
  · (go_wp2; exact ⟨rfl, Below.refl _ _⟩)
  · (go_wp2; exact ⟨rfl, Below.refl _ _⟩)
  simp only [act_norm]
  refine wpAnyE_take 3 (v := .pointer (some ⟨st, 2, none⟩)) rfl (by kernel_rfl) (by kernel_rfl) (by kernel_rfl) (fun _ _ _ h => h) hst (EffB.run rfl rfl (fun wd hS => ?_)) (.inr (EffB.run rfl rfl (fun wd hS => ?_))) ?_
  · (go_wp2; exact ⟨rfl, Below.refl _ _⟩)
  · (go_wp2; exact ⟨rfl, Below.refl _ _⟩)
  simp only [act_norm]
  refine wpAnyE_take 4 (v := .int .i64 rp) rfl (by kernel_rfl) (by kernel_rfl) (by kernel_rfl) (fun _ _ _ h => h) hst (EffB.run rfl rfl (fun wd hS => ?_)) (.inl (by kernel_rfl)) ?_
  · (have c2 : wd.cell? ⟨st, 2, none⟩ = some (.int .i64 rp) := by rw [cell_of_row _ _ _ _ _ _ (hS.2.heap 1 rfl)]; rfl); go_wp2; exact ⟨rfl, Below.refl _ _⟩
  simp only [act_norm]
  refine wpAnyE_take 5 (v := .pointer (some ⟨w.heap.size, 2, none⟩)) rfl (by kernel_rfl) (by kernel_rfl) (by kernel_rfl) (fun _ _ _ h => h) hst (EffB.run rfl rfl (fun wd hS => ?_)) (.inr (EffB.run rfl rfl (fun wd hS => ?_))) ?_
  · (go_wp2; exact ⟨rfl, Below.refl _ _⟩)
  · (go_wp2; exact ⟨rfl, Below.refl _ _⟩)
  simp only [act_norm]
  refine wpAnyE_take 6 (v := .int .i64 p.tg) rfl (by kernel_rfl) (by kernel_rfl) (by kernel_rfl) (fun _ _ _ h => h) hst (EffB.run rfl rfl (fun wd hS => ?_)) (.inl (by kernel_rfl)) ?_
  · (have c2 : wd.cell? ⟨w.heap.size, 2, none⟩ = some (.int .i64 p.tg) := by rw [cell_of_row _ _ _ _ _ _ (hS.2.heap 2 rfl)]; rfl); go_wp2; exact ⟨rfl, Below.refl _ _⟩
  simp only [act_norm]
  refine wpAnyE_take 7 (v := .int .i64 m) rfl (by kernel_rfl) (by kernel_rfl) (by kernel_rfl) (fun _ _ _ h => h) hst (EffB.run rfl rfl (fun wd hS => ?_)) (.inl (by kernel_rfl)) ?_
  · (go_wp2_with fail; (with_reducible refine (HMUL.out wd).mono ?_); rintro e w'' ⟨rfl, rfl⟩; exact ⟨rfl, Below.refl _ _⟩)
  simp only [act_norm]
  refine wpAnyE_take 8 (v := .int .i64 sv) rfl (by kernel_rfl) (by kernel_rfl) (by kernel_rfl) (fun _ _ _ h => h) hst (EffB.run rfl rfl (fun wd hS => ?_)) (.inl (by kernel_rfl)) ?_
  · (by_cases hlt : m < a; (· (rw [show sv = m by have := HSV.out; omega]; go_wp2; exact ⟨rfl, Below.refl _ _⟩)); (· (rw [show sv = a by have := HSV.out; omega]; have hge2 : ¬ m < a := hlt; go_wp2; exact ⟨rfl, Below.refl _ _⟩)))
  simp only [act_norm]
  refine wpAnyE_take 9 (v := .pointer (some ⟨w.heap.size + 2, 3, none⟩)) rfl (by kernel_rfl) (by kernel_rfl) (by kernel_rfl) (fun _ _ _ h => h) hst (EffB.run rfl rfl (fun wd hS => ?_)) (.inr (EffB.run rfl rfl (fun wd hS => ?_))) ?_
  · (go_wp2; exact ⟨rfl, Below.refl _ _⟩)
  · (go_wp2; exact ⟨rfl, Below.refl _ _⟩)
  simp only [act_norm]
  refine wpAnyE_one 10 rfl (by kernel_rfl) rfl (fun wd hS => ?_)
  have hstN := stab_and (stab_fol (B := B) (s := s) (h := h) (r := r) (vs := vs) (vh := vh) (u := u) (sa := 64) (ro := 16) (f := ⟨sam, past, rows⟩)) (stab_mem (w := w0) (bs := [(P0, .cells #[.int .i64 p.mn, .int .i64 p.mx, .int .i64 p.tg, .int .i64 p.tl, .int .i64 p.wi, .int .i64 p.ho] 23), (st, .cells #[.pointer (some ⟨s, 0, none⟩), .pointer (some ⟨h, 0, none⟩), .int .i64 rp, .int .i64 lf] 52), (w.heap.size, .cells #[.int .i64 p.mn, .int .i64 p.mx, .int .i64 p.tg, .int .i64 p.tl, .int .i64 p.wi, .int .i64 p.ho] 23), (w.heap.size + 1, .cells #[.int .i64 0, .int .i64 0, .int .i64 0, .int .i64 0, .int .i64 0] 39), (w.heap.size + 2, .cells #[.int .i64 k, .int .i64 c, .int .i64 rp, .int .i64 sv, .int .i64 0] 39)]))
  have x3 := hS.2.cell 4 3 rfl rfl
  have z3 := hS.2.free 4 3 rfl
  go_wp2
  refine ⟨_, ⟨hS.1.setc OFX.out 3 (.int .i64 sv), hS.2.setCell 4 3 (.int .i64 sv) rfl⟩, hstN, ?_⟩
  clear hS x3 z3 hst
  try simp only [act_norm]
  have hst := hstN
  clear hstN
  refine wpAnyE_done (by kernel_rfl) (fun wd hS => ?_) _
  have M5 := Lib.hid (hS.2.setCell 4 4 (.int .i64 l2) rfl)
  have F5 := Lib.hid (hS.1.setc OFX.out 4 (.int .i64 l2))
  have M6 := Lib.hid (M5.out.setCell 1 3 (.int .i64 l2) rfl)
  have F6 := Lib.hid (F5.out.setc OFF.out 3 (.int .i64 l2))
  have x3 := hS.2.cell 4 3 rfl rfl
  have x4 := hS.2.cell 4 4 rfl rfl
  have z4 := hS.2.free 4 4 rfl
  have y4 := M5.out.cell 4 4 rfl rfl
  have y3 := M5.out.cell 1 3 rfl rfl
  have v3 := M5.out.free 1 3 rfl
  have u0 := M6.out.cell 1 0 rfl rfl
  clear hS hst F3 M3 M5 F5
  have HP := Lib.hid (ser_put F6.out.ser (by have h1 := F6.out.ser.low; have h2 := F6.out.ser.lt; omega) ⟨(k : Int), a⟩ HCODE.out)
  go_wp2_with fail
  (with_reducible refine HP.out.mono ?_)
  rintro e w7 ⟨rfl, vs7, hse7, ht7, hv7⟩
  have hlow6 := F6.out.low
  have F7 : Hid (Fol w7 B s h r vs7 vh u 64 16 ⟨S, past, rows⟩) := by show Fol _ _ _ _ _ _ _ _ _ _ _; rw [HSE.out]; exact F6.out.put hse7 ht7 hv7
  have hst6 : st < ((wd.setCell ⟨w.heap.size + 2, 4, none⟩ (.int .i64 l2)).setCell ⟨st, 3, none⟩ (.int .i64 l2)).heap.size := M6.out.lt (i := 1) rfl
  have OFF7 := Lib.hid (OFF.out.putS hst6 hv7)
  have OFR7 := Lib.hid (OFR.out.putS (M6.out.lt (i := 3) rfl) hv7)
  have hsl := hlow.1
  have M7 := Lib.hid (M6.out.turnedL (B := B) (N := w.heap.size) (st := st) ht7 (fun x hx => ⟨(hlow.1 x hx).1, (hlow.1 x hx).2, fun e => by subst e; rcases hx with hx | hx; exact OFF.out.s hx; exact OFF.out.vs hx⟩) hB0 (fun i x o hi => by rcases i with _ | _ | _ | _ | _ | i <;> simp at hi <;> omega))
  have M7 : Hid (Mem w0 w7 [(P0, .cells #[.int .i64 p.mn, .int .i64 p.mx, .int .i64 p.tg, .int .i64 p.tl, .int .i64 p.wi, .int .i64 p.ho] 23), (st, .cells #[.pointer (some ⟨s, 0, none⟩), .pointer (some ⟨h, 0, none⟩), .int .i64 rp, .int .i64 l2] 52), (w.heap.size, .cells #[.int .i64 p.mn, .int .i64 p.mx, .int .i64 p.tg, .int .i64 p.tl, .int .i64 p.wi, .int .i64 p.ho] 23), (w.heap.size + 1, .cells #[.int .i64 0, .int .i64 0, .int .i64 0, .int .i64 0, .int .i64 0] 39), (w.heap.size + 2, .cells #[.int .i64 k, .int .i64 c, .int .i64 rp, .int .i64 sv, .int .i64 l2] 39)]) := M7
  clear HP hse7 ht7 hv7 F6 M6 x3 x4 z4 y4 y3 v3 u0 hlow6 hst6 hsl
  go_wp2_with fail
  have hst := stab_and (stab_fol (B := B) (s := s) (h := h) (r := r) (vs := vs7) (vh := vh) (u := u) (sa := 64) (ro := 16) (f := ⟨S, past, rows⟩)) (stab_mem (w := w0) (bs := [(P0, .cells #[.int .i64 p.mn, .int .i64 p.mx, .int .i64 p.tg, .int .i64 p.tl, .int .i64 p.wi, .int .i64 p.ho] 23), (st, .cells #[.pointer (some ⟨s, 0, none⟩), .pointer (some ⟨h, 0, none⟩), .int .i64 rp, .int .i64 l2] 52), (w.heap.size, .cells #[.int .i64 p.mn, .int .i64 p.mx, .int .i64 p.tg, .int .i64 p.tl, .int .i64 p.wi, .int .i64 p.ho] 23), (w.heap.size + 1, .cells #[.int .i64 0, .int .i64 0, .int .i64 0, .int .i64 0, .int .i64 0] 39), (w.heap.size + 2, .cells #[.int .i64 k, .int .i64 c, .int .i64 rp, .int .i64 sv, .int .i64 l2] 39)]))
  refine wp_region_E mixed [16] hst ⟨F7.out.below (below_drew (Below.refl _ _)), M7.out.drewN 1⟩ ?_
  refine wpAnyE_take 0 (v := .agg #[.int .i64 p.mn, .int .i64 p.mx, .int .i64 p.tg, .int .i64 p.tl, .int .i64 p.wi, .int .i64 p.ho]) rfl (by kernel_rfl) (by kernel_rfl) (by kernel_rfl) (fun _ _ _ h => h) hst (EffB.run rfl rfl (fun wd hS => ?_)) (.inl (by kernel_rfl)) ?_
  · exact wp_load_row 23 _ rfl (w.heap.size) rfl 23 #[.int .i64 p.mn, .int .i64 p.mx, .int .i64 p.tg, .int .i64 p.tl, .int .i64 p.wi, .int .i64 p.ho] (0, 0) _ (hS.2.heap 2 rfl) Tryz.underlying23 rfl (by kernel_rfl) ⟨rfl, Below.refl _ _⟩
  simp only [act_norm]
  refine wpAnyE_take 1 rfl (by kernel_rfl) (by kernel_rfl) (by kernel_rfl) (fun _ _ _ h => h) hst (EffB.pure rfl (fun _ => rfl)) (.inr (EffB.pure rfl (fun _ => rfl))) ?_
  simp only [act_norm]
  refine wpAnyE_take 2 (v := .pointer (some ⟨st, 0, none⟩)) rfl (by kernel_rfl) (by kernel_rfl) (by kernel_rfl) (fun _ _ _ h => h) hst (EffB.run rfl rfl (fun wd hS => ?_)) (.inr (EffB.run rfl rfl (fun wd hS => ?_))) ?_
  · (go_wp2; exact ⟨rfl, Below.refl _ _⟩)
  · (go_wp2; exact ⟨rfl, Below.refl _ _⟩)
  simp only [act_norm]
  refine wpAnyE_take 3 (v := .pointer (some ⟨st, 0, none⟩)) rfl (by kernel_rfl) (by kernel_rfl) (by kernel_rfl) (fun _ _ _ h => h) hst (EffB.run rfl rfl (fun wd hS => ?_)) (.inr (EffB.run rfl rfl (fun wd hS => ?_))) ?_
  · (go_wp2; exact ⟨rfl, Below.refl _ _⟩)
  · (go_wp2; exact ⟨rfl, Below.refl _ _⟩)
  simp only [act_norm]
  refine wpAnyE_take 4 (v := .pointer (some ⟨s, 0, none⟩)) rfl (by kernel_rfl) (by kernel_rfl) (by kernel_rfl) (fun _ _ _ h => h) hst (EffB.run rfl rfl (fun wd hS => ?_)) (.inl (by kernel_rfl)) ?_
  · (have c2 : wd.cell? ⟨st, 0, none⟩ = some (.pointer (some ⟨s, 0, none⟩)) := by rw [cell_of_row _ _ _ _ _ _ (hS.2.heap 1 rfl)]; rfl); go_wp2; exact ⟨rfl, Below.refl _ _⟩
  simp only [act_norm]
  refine wpAnyE_take 6 rfl (by kernel_rfl) (by kernel_rfl) (by kernel_rfl) (fun _ _ _ h => h) hst (EffB.pure rfl (fun _ => rfl)) (.inr (EffB.pure rfl (fun _ => rfl))) ?_
  simp only [act_norm]
  refine wpAnyE_take 7 (v := .pointer (some ⟨st, 0, none⟩)) rfl (by kernel_rfl) (by kernel_rfl) (by kernel_rfl) (fun _ _ _ h => h) hst (EffB.run rfl rfl (fun wd hS => ?_)) (.inr (EffB.run rfl rfl (fun wd hS => ?_))) ?_
  · (go_wp2; exact ⟨rfl, Below.refl _ _⟩)
  · (go_wp2; exact ⟨rfl, Below.refl _ _⟩)
  simp only [act_norm]
  refine wpAnyE_take 8 (v := .pointer (some ⟨st, 1, none⟩)) rfl (by kernel_rfl) (by kernel_rfl) (by kernel_rfl) (fun _ _ _ h => h) hst (EffB.run rfl rfl (fun wd hS => ?_)) (.inr (EffB.run rfl rfl (fun wd hS => ?_))) ?_
  · (go_wp2; exact ⟨rfl, Below.refl _ _⟩)
  · (go_wp2; exact ⟨rfl, Below.refl _ _⟩)
  simp only [act_norm]
  refine wpAnyE_take 9 (v := .pointer (some ⟨h, 0, none⟩)) rfl (by kernel_rfl) (by kernel_rfl) (by kernel_rfl) (fun _ _ _ h => h) hst (EffB.run rfl rfl (fun wd hS => ?_)) (.inl (by kernel_rfl)) ?_
  · (have c2 : wd.cell? ⟨st, 1, none⟩ = some (.pointer (some ⟨h, 0, none⟩)) := by rw [cell_of_row _ _ _ _ _ _ (hS.2.heap 1 rfl)]; rfl); go_wp2; exact ⟨rfl, Below.refl _ _⟩
  simp only [act_norm]
  refine wpAnyE_two 5 15 rfl rfl (by kernel_rfl) rfl rfl (fun wd hS => ?_) (fun wd hS => ?_)
  · have P4 := ser_list hS.1.ser
    simp only [← ELS.out] at P4
    go_wp2_with fail
    (with_reducible refine P4.mono ?_)
    rintro e w4 ⟨p4, c4, rfl, _, hs4, hb4⟩
    have hstN := stab_and hst (stab_sampsF (q := p4) (l := S))
    refine ⟨_, ⟨hst _ _ hS hb4, hs4⟩, hstN, (by first | exact (fun _ h => h.1) | exact .inr (fun _ h => h.1)), ?_⟩
    try simp only [act_norm]
    clear hS hs4 hb4 P4 hst
    have hst := hstN
    clear hstN
    refine wpAnyE_two 10 15 rfl rfl (by kernel_rfl) rfl rfl (fun wd hS => ?_) (fun wd hS => ?_)
    · have P5 := hist_list hS.1.1.his
      simp only [← ELP.out] at P5
      go_wp2_with fail
      (with_reducible refine P5.mono ?_)
      rintro e w5 ⟨p5, c5, rfl, _, hs5, hb5⟩
      have hstN := stab_and hst (stab_advs (q := p5) (l := past))
      refine ⟨_, ⟨hst _ _ hS hb5, hs5⟩, hstN, (by first | exact (fun _ h => h.1) | exact .inr (fun _ h => h.1)), ?_⟩
      try simp only [act_norm]
      clear hS hs5 hb5 P5 hst
      have hst := hstN
      clear hstN
      refine wpAnyE_take 11 (v := .tuple #[.agg #[.int .i64 ot, .int .i64 ol, .int .i64 ow, .int .i64 orr, .int .i64 oy], .int .i64 0]) rfl (by kernel_rfl) (by kernel_rfl) (by kernel_rfl) (fun _ _ _ h => h) hst (EffB.run rfl rfl (fun wd hS => ?_)) (.inl (by kernel_rfl)) ?_
      · (go_wp2_with fail; (with_reducible refine (HD.out p4 c4 p5 c5 wd hS.1.2 hS.2).mono ?_); rintro e w'' ⟨rfl, hb⟩; exact ⟨rfl, hb⟩)
      simp only [act_norm]
      refine wpAnyE_take 12 rfl (by kernel_rfl) (by kernel_rfl) (by kernel_rfl) (fun _ _ _ h => h) hst (EffB.pure rfl (fun _ => rfl)) (.inr (EffB.pure rfl (fun _ => rfl))) ?_
      simp only [act_norm]
      refine wpAnyE_take 13 (v := .agg #[.int .i64 ot, .int .i64 ol, .int .i64 ow, .int .i64 orr, .int .i64 oy]) rfl (by kernel_rfl) (by kernel_rfl) (by kernel_rfl) (fun _ _ _ h => h) hst (EffB.run rfl rfl (fun wd hS => ?_)) (.inr (EffB.run rfl rfl (fun wd hS => ?_))) ?_
      · (go_wp2; exact ⟨rfl, Below.refl _ _⟩)
      · (go_wp2; exact ⟨rfl, Below.refl _ _⟩)
      simp only [act_norm]
      refine wpAnyE_take 14 (v := .int .i64 0) rfl (by kernel_rfl) (by kernel_rfl) (by kernel_rfl) (fun _ _ _ h => h) hst (EffB.run rfl rfl (fun wd hS => ?_)) (.inr (EffB.run rfl rfl (fun wd hS => ?_))) ?_
      · (go_wp2; exact ⟨rfl, Below.refl _ _⟩)
      · (go_wp2; exact ⟨rfl, Below.refl _ _⟩)
      simp only [act_norm]
      refine wpAnyE_one 15 rfl (by kernel_rfl) rfl (fun wd hS => ?_)
      have hX := hS.1.1.1.off (X := wd.heap.size) (Nat.le_refl _)
      have hXlt : w.heap.size + 2 < wd.heap.size := hS.1.1.2.lt (i := 4) rfl
      have hstx : st < wd.heap.size := hS.1.1.2.lt (i := 1) rfl
      have hstN := stab_and (stab_and (stab_and (stab_fol (B := B) (s := s) (h := h) (r := r) (vs := vs7) (vh := vh) (u := u) (sa := 64) (ro := 16) (f := ⟨S, past, rows⟩)) (stab_mem (w := w0) (bs := [(P0, .cells #[.int .i64 p.mn, .int .i64 p.mx, .int .i64 p.tg, .int .i64 p.tl, .int .i64 p.wi, .int .i64 p.ho] 23), (st, .cells #[.pointer (some ⟨s, 0, none⟩), .pointer (some ⟨h, 0, none⟩), .int .i64 rp, .int .i64 l2] 52), (w.heap.size, .cells #[.int .i64 p.mn, .int .i64 p.mx, .int .i64 p.tg, .int .i64 p.tl, .int .i64 p.wi, .int .i64 p.ho] 23), (w.heap.size + 1, .cells #[.int .i64 0, .int .i64 0, .int .i64 0, .int .i64 0, .int .i64 0] 39), (w.heap.size + 2, .cells #[.int .i64 k, .int .i64 c, .int .i64 rp, .int .i64 sv, .int .i64 l2] 39), (wd.heap.size, .cells #[.int .i64 0, .int .i64 0, .int .i64 0, .int .i64 0, .int .i64 0] 66)]))) (stab_sampsF (q := p4) (l := S))) (stab_advs (q := p5) (l := past))
      have X4 := Lib.hid (And.intro (And.intro (And.intro (hS.1.1.1.below (below1 wd (.cells #[.int .i64 0, .int .i64 0, .int .i64 0, .int .i64 0, .int .i64 0] 66))) (hS.1.1.2.alloc (.cells #[.int .i64 0, .int .i64 0, .int .i64 0, .int .i64 0, .int .i64 0] 66))) (hS.1.2.below (below1 wd (.cells #[.int .i64 0, .int .i64 0, .int .i64 0, .int .i64 0, .int .i64 0] 66)))) (hS.2.below (below1 wd (.cells #[.int .i64 0, .int .i64 0, .int .i64 0, .int .i64 0, .int .i64 0] 66))))
      clear hS
      go_wp2
      refine ⟨_, X4.out, hstN, (by first | exact (fun _ h => ⟨⟨⟨h.1.1.1, h.1.1.2.init⟩, h.1.2⟩, h.2⟩) | exact .inr (fun _ h => ⟨⟨⟨h.1.1.1, h.1.1.2.init⟩, h.1.2⟩, h.2⟩)), ?_⟩
      obtain ⟨Y, hY⟩ : ∃ Y, wd.heap.size = Y := ⟨_, rfl⟩
      rw [hY] at hstN hX hXlt hstx ⊢
      clear X4 hY hst
      try simp only [act_norm]
      have hst := hstN
      clear hstN
      refine wpAnyE_one 16 rfl (by kernel_rfl) rfl (fun wd hS => ?_)
      have hst5 := stab_and (stab_fol (B := B) (s := s) (h := h) (r := r) (vs := vs7) (vh := vh) (u := u) (sa := 64) (ro := 16) (f := ⟨S, past, rows⟩)) (stab_mem (w := w0) (bs := [(P0, .cells #[.int .i64 p.mn, .int .i64 p.mx, .int .i64 p.tg, .int .i64 p.tl, .int .i64 p.wi, .int .i64 p.ho] 23), (st, .cells #[.pointer (some ⟨s, 0, none⟩), .pointer (some ⟨h, 0, none⟩), .int .i64 rp, .int .i64 l2] 52), (w.heap.size, .cells #[.int .i64 p.mn, .int .i64 p.mx, .int .i64 p.tg, .int .i64 p.tl, .int .i64 p.wi, .int .i64 p.ho] 23), (w.heap.size + 1, .cells #[.int .i64 0, .int .i64 0, .int .i64 0, .int .i64 0, .int .i64 0] 39), (w.heap.size + 2, .cells #[.int .i64 k, .int .i64 c, .int .i64 rp, .int .i64 sv, .int .i64 l2] 39), (Y, .cells #[.int .i64 ot, .int .i64 ol, .int .i64 ow, .int .i64 orr, .int .i64 oy] 66)]))
      refine wp_store_row 66 _ _ rfl Y #[.int .i64 ot, .int .i64 ol, .int .i64 ow, .int .i64 orr, .int .i64 oy] rfl rfl 66 #[.int .i64 0, .int .i64 0, .int .i64 0, .int .i64 0, .int .i64 0] (hS.1.1.2.heap 5 rfl) advSize5 rfl (by simp [Value.oneCell']) ?_
      have hF5 := hS.1.1.1.setr hX #[.int .i64 ot, .int .i64 ol, .int .i64 ow, .int .i64 orr, .int .i64 oy]
      refine ⟨_, ⟨hF5, hS.1.1.2.setRow 5 rfl⟩, hst5, .inl (by decide), ?_⟩
      clear hS hF5 hst
      try simp only [act_norm]
      have hst := hst5
      clear hst5
      refine wpAnyE_take 17 rfl (by kernel_rfl) (by kernel_rfl) (by kernel_rfl) (fun _ _ _ h => h) hst (EffB.pure rfl (fun _ => rfl)) (.inr (EffB.pure rfl (fun _ => rfl))) ?_
      simp only [act_norm]
      refine wpAnyE_done (by kernel_rfl) (fun wd hS => ?_) _
      have F8 := Lib.hid hS.1
      have M8 := Lib.hid hS.2
      clear hS
      go_wp2_with fail
      refine wp_region_E mixed [5] hst ⟨F8.out.below (below_drew (Below.refl _ _)), M8.out.drewN 1⟩ ?_
      refine wpAnyE_take 0 rfl (by kernel_rfl) (by kernel_rfl) (by kernel_rfl) (fun _ _ _ h => h) hst (EffB.pure rfl (fun _ => rfl)) (.inr (EffB.pure rfl (fun _ => rfl))) ?_
      simp only [act_norm]
      refine wpAnyE_take 1 (v := .pointer (some ⟨st, 0, none⟩)) rfl (by kernel_rfl) (by kernel_rfl) (by kernel_rfl) (fun _ _ _ h => h) hst (EffB.run rfl rfl (fun wd hS => ?_)) (.inr (EffB.run rfl rfl (fun wd hS => ?_))) ?_
      · (go_wp2; exact ⟨rfl, Below.refl _ _⟩)
      · (go_wp2; exact ⟨rfl, Below.refl _ _⟩)
      simp only [act_norm]
      refine wpAnyE_take 2 (v := .pointer (some ⟨st, 1, none⟩)) rfl (by kernel_rfl) (by kernel_rfl) (by kernel_rfl) (fun _ _ _ h => h) hst (EffB.run rfl rfl (fun wd hS => ?_)) (.inr (EffB.run rfl rfl (fun wd hS => ?_))) ?_
      · (go_wp2; exact ⟨rfl, Below.refl _ _⟩)
      · (go_wp2; exact ⟨rfl, Below.refl _ _⟩)
      simp only [act_norm]
      refine wpAnyE_take 3 (v := .pointer (some ⟨h, 0, none⟩)) rfl (by kernel_rfl) (by kernel_rfl) (by kernel_rfl) (fun _ _ _ h => h) hst (EffB.run rfl rfl (fun wd hS => ?_)) (.inl (by kernel_rfl)) ?_
      · (have c2 : wd.cell? ⟨st, 1, none⟩ = some (.pointer (some ⟨h, 0, none⟩)) := by rw [cell_of_row _ _ _ _ _ _ (hS.2.heap 1 rfl)]; rfl); go_wp2; exact ⟨rfl, Below.refl _ _⟩
      simp only [act_norm]
      refine wpAnyE_take 4 (v := .agg #[.int .i64 ot, .int .i64 ol, .int .i64 ow, .int .i64 orr, .int .i64 oy]) rfl (by kernel_rfl) (by kernel_rfl) (by kernel_rfl) (fun _ _ _ h => h) hst (EffB.run rfl rfl (fun wd hS => ?_)) (.inl (by kernel_rfl)) ?_
      · exact wp_load_row 66 _ rfl (Y) rfl 66 #[.int .i64 ot, .int .i64 ol, .int .i64 ow, .int .i64 orr, .int .i64 oy] (0, 0) _ (hS.2.heap 5 rfl) Tryz.underlying66 rfl (by kernel_rfl) ⟨rfl, Below.refl _ _⟩
      simp only [act_norm]
      refine wpAnyE_one 5 rfl (by kernel_rfl) rfl (fun wd hS => ?_)
      have P9 := Lib.hid (hist_add hS.1.his (by have h1 := hS.1.ser.low; have h2 := hS.1.ser.lt; omega) ⟨ot, ol, ow, orr, oy⟩)
      go_wp2_with fail
      (with_reducible refine P9.out.mono ?_)
      rintro e w9 ⟨rfl, vh9, hh9, ht9, hv9⟩
      have hstN := stab_and (stab_and (stab_fol (B := B) (s := s) (h := h) (r := r) (vs := vs7) (vh := vh9) (u := u) (sa := 64) (ro := 16) (f := ⟨S, Ring.next 16 past ⟨ot, ol, ow, orr, oy⟩, rows⟩)) (stab_mem (w := w0) (bs := [(P0, .cells #[.int .i64 p.mn, .int .i64 p.mx, .int .i64 p.tg, .int .i64 p.tl, .int .i64 p.wi, .int .i64 p.ho] 23), (st, .cells #[.pointer (some ⟨s, 0, none⟩), .pointer (some ⟨h, 0, none⟩), .int .i64 rp, .int .i64 l2] 52), (w.heap.size, .cells #[.int .i64 p.mn, .int .i64 p.mx, .int .i64 p.tg, .int .i64 p.tl, .int .i64 p.wi, .int .i64 p.ho] 23), (w.heap.size + 1, .cells #[.int .i64 0, .int .i64 0, .int .i64 0, .int .i64 0, .int .i64 0] 39), (w.heap.size + 2, .cells #[.int .i64 k, .int .i64 c, .int .i64 rp, .int .i64 sv, .int .i64 l2] 39), (Y, .cells #[.int .i64 ot, .int .i64 ol, .int .i64 ow, .int .i64 orr, .int .i64 oy] 66)]))) (stab_prop (q := Off st s h r vs7 vh9 u ∧ Off (w.heap.size + 1) s h r vs7 vh9 u))
      have hlw := hS.1.low
      have h4 : ∀ x, (x = r ∨ vh.ownBlock = some x) → B ≤ x ∧ x < w.heap.size ∧ x ≠ st := fun x hx => ⟨(hlow.2.1 x hx).1, (hlow.2.1 x hx).2, fun e => by subst e; rcases hx with hx | hx; exact OFF.out.r hx; exact OFF.out.vh hx⟩
      refine ⟨_, ⟨⟨hS.1.add hh9 ht9 hv9, hS.2.turnedL (B := B) (N := w.heap.size) (st := st) ht9 h4 hB0 (fun i x o hi => by rcases i with _ | _ | _ | _ | _ | _ | i <;> simp at hi <;> omega)⟩, OFF7.out.putH (hS.2.lt (i := 1) rfl) hv9, OFR7.out.putH (hS.2.lt (i := 3) rfl) hv9⟩, hstN, ?_⟩
      clear hS hh9 ht9 hv9 P9 hst F8 M8 hlw h4
      try simp only [act_norm]
      have hst := hstN
      clear hstN
      refine wpAnyE_done (by kernel_rfl) (fun wd hS => ?_) _
      have M9 := Lib.hid (hS.1.2.setCell 1 2 (.int .i64 orr) rfl)
      have F9 := Lib.hid (hS.1.1.setc hS.2.1 2 (.int .i64 orr))
      have OFF9 := Lib.hid hS.2.1
      have OFR9 := Lib.hid hS.2.2
      have x3 := hS.1.2.cell 5 3 rfl rfl
      have y2 := hS.1.2.cell 1 2 rfl rfl
      have z2 := hS.1.2.free 1 2 rfl
      have KX := Lib.hid (M9.out.heap 4 rfl)
      have KR := Lib.hid (M9.out.heap 3 rfl)
      clear hS hst
      go_wp2_with (first | ((with_reducible refine wpList_load_rowAs rfl 39 _ rfl ((w.heap.size + 2)) ?_ 39 #[.int .i64 k, .int .i64 c, .int .i64 rp, .int .i64 sv, .int .i64 l2] (0, 0) _ 5 ?_ Tryz.underlying39 rfl (by kernel_rfl) ?_ ?_); exact rfl; exact KX.out; exact rfl) | ((with_reducible refine wpList_store_rowAs rfl 39 _ _ rfl ((w.heap.size + 1)) #[.int .i64 k, .int .i64 c, .int .i64 rp, .int .i64 sv, .int .i64 l2] ?_ ?_ 39 #[.int .i64 0, .int .i64 0, .int .i64 0, .int .i64 0, .int .i64 0] 5 ?_ (by kernel_rfl) rfl rfl (by simp [Value.oneCell']) ?_); exact rfl; exact rfl; exact KR.out))
      have MA := M9.out.setRow (cs := #[.int .i64 k, .int .i64 c, .int .i64 rp, .int .i64 sv, .int .i64 l2]) 3 rfl
      have FA := F9.out.setr OFR9.out #[.int .i64 k, .int .i64 c, .int .i64 rp, .int .i64 sv, .int .i64 l2]
      exact bodyPost_ret (results_cell_row rfl _ _ (w.heap.size + 1) 39 #[.int .i64 k, .int .i64 c, .int .i64 rp, .int .i64 sv, .int .i64 l2] (0, 0) _ rfl (MA.heap 3 rfl) Tryz.underlying39 rfl (by kernel_rfl)) rfl ⟨rfl, _, _, FA, MA.init (cs := [(w.heap.size, .cells #[.int .i64 p.mn, .int .i64 p.mx, .int .i64 p.tg, .int .i64 p.tl, .int .i64 p.wi, .int .i64 p.ho] 23), (w.heap.size + 1, .cells #[.int .i64 k, .int .i64 c, .int .i64 rp, .int .i64 sv, .int .i64 l2] 39), (w.heap.size + 2, .cells #[.int .i64 k, .int .i64 c, .int .i64 rp, .int .i64 sv, .int .i64 l2] 39), (Y, .cells #[.int .i64 ot, .int .i64 ol, .int .i64 ow, .int .i64 orr, .int .i64 oy] 66)]), OFF9.out⟩
    · have hX := hS.1.1.off (X := wd.heap.size) (Nat.le_refl _)
      have hXlt : w.heap.size + 2 < wd.heap.size := hS.1.2.lt (i := 4) rfl
      have hstx : st < wd.heap.size := hS.1.2.lt (i := 1) rfl
      have hstN := stab_and (stab_and (stab_fol (B := B) (s := s) (h := h) (r := r) (vs := vs7) (vh := vh) (u := u) (sa := 64) (ro := 16) (f := ⟨S, past, rows⟩)) (stab_mem (w := w0) (bs := [(P0, .cells #[.int .i64 p.mn, .int .i64 p.mx, .int .i64 p.tg, .int .i64 p.tl, .int .i64 p.wi, .int .i64 p.ho] 23), (st, .cells #[.pointer (some ⟨s, 0, none⟩), .pointer (some ⟨h, 0, none⟩), .int .i64 rp, .int .i64 l2] 52), (w.heap.size, .cells #[.int .i64 p.mn, .int .i64 p.mx, .int .i64 p.tg, .int .i64 p.tl, .int .i64 p.wi, .int .i64 p.ho] 23), (w.heap.size + 1, .cells #[.int .i64 0, .int .i64 0, .int .i64 0, .int .i64 0, .int .i64 0] 39), (w.heap.size + 2, .cells #[.int .i64 k, .int .i64 c, .int .i64 rp, .int .i64 sv, .int .i64 l2] 39), (wd.heap.size, .cells #[.int .i64 0, .int .i64 0, .int .i64 0, .int .i64 0, .int .i64 0] 66)]))) (stab_sampsF (q := p4) (l := S))
      have X4 := Lib.hid (And.intro (And.intro (hS.1.1.below (below1 wd (.cells #[.int .i64 0, .int .i64 0, .int .i64 0, .int .i64 0, .int .i64 0] 66))) (hS.1.2.alloc (.cells #[.int .i64 0, .int .i64 0, .int .i64 0, .int .i64 0, .int .i64 0] 66))) (hS.2.below (below1 wd (.cells #[.int .i64 0, .int .i64 0, .int .i64 0, .int .i64 0, .int .i64 0] 66))))
      clear hS
      go_wp2
      refine ⟨_, X4.out, hstN, (by first | exact (fun _ h => ⟨⟨h.1.1, h.1.2.init⟩, h.2⟩) | exact .inr (fun _ h => ⟨⟨h.1.1, h.1.2.init⟩, h.2⟩)), ?_⟩
      obtain ⟨Y, hY⟩ : ∃ Y, wd.heap.size = Y := ⟨_, rfl⟩
      rw [hY] at hstN hX hXlt hstx ⊢
      clear X4 hY hst
      try simp only [act_norm]
      have hst := hstN
      clear hstN
      refine wpAnyE_one 10 rfl (by kernel_rfl) rfl (fun wd hS => ?_)
      have P5 := hist_list hS.1.1.his
      simp only [← ELP.out] at P5
      go_wp2_with fail
      (with_reducible refine P5.mono ?_)
      rintro e w5 ⟨p5, c5, rfl, _, hs5, hb5⟩
      have hstN := stab_and hst (stab_advs (q := p5) (l := past))
      refine ⟨_, ⟨hst _ _ hS hb5, hs5⟩, hstN, (by first | exact (fun _ h => h.1) | exact .inr (fun _ h => h.1)), ?_⟩
      try simp only [act_norm]
      clear hS hs5 hb5 P5 hst
      have hst := hstN
      clear hstN
      refine wpAnyE_take 11 (v := .tuple #[.agg #[.int .i64 ot, .int .i64 ol, .int .i64 ow, .int .i64 orr, .int .i64 oy], .int .i64 0]) rfl (by kernel_rfl) (by kernel_rfl) (by kernel_rfl) (fun _ _ _ h => h) hst (EffB.run rfl rfl (fun wd hS => ?_)) (.inl (by kernel_rfl)) ?_
      · (go_wp2_with fail; (with_reducible refine (HD.out p4 c4 p5 c5 wd hS.1.2 hS.2).mono ?_); rintro e w'' ⟨rfl, hb⟩; exact ⟨rfl, hb⟩)
      simp only [act_norm]
      refine wpAnyE_take 12 rfl (by kernel_rfl) (by kernel_rfl) (by kernel_rfl) (fun _ _ _ h => h) hst (EffB.pure rfl (fun _ => rfl)) (.inr (EffB.pure rfl (fun _ => rfl))) ?_
      simp only [act_norm]
      refine wpAnyE_take 13 (v := .agg #[.int .i64 ot, .int .i64 ol, .int .i64 ow, .int .i64 orr, .int .i64 oy]) rfl (by kernel_rfl) (by kernel_rfl) (by kernel_rfl) (fun _ _ _ h => h) hst (EffB.run rfl rfl (fun wd hS => ?_)) (.inr (EffB.run rfl rfl (fun wd hS => ?_))) ?_
      · (go_wp2; exact ⟨rfl, Below.refl _ _⟩)
      · (go_wp2; exact ⟨rfl, Below.refl _ _⟩)
      simp only [act_norm]
      refine wpAnyE_take 14 (v := .int .i64 0) rfl (by kernel_rfl) (by kernel_rfl) (by kernel_rfl) (fun _ _ _ h => h) hst (EffB.run rfl rfl (fun wd hS => ?_)) (.inr (EffB.run rfl rfl (fun wd hS => ?_))) ?_
      · (go_wp2; exact ⟨rfl, Below.refl _ _⟩)
      · (go_wp2; exact ⟨rfl, Below.refl _ _⟩)
      simp only [act_norm]
      refine wpAnyE_one 16 rfl (by kernel_rfl) rfl (fun wd hS => ?_)
      have hst5 := stab_and (stab_fol (B := B) (s := s) (h := h) (r := r) (vs := vs7) (vh := vh) (u := u) (sa := 64) (ro := 16) (f := ⟨S, past, rows⟩)) (stab_mem (w := w0) (bs := [(P0, .cells #[.int .i64 p.mn, .int .i64 p.mx, .int .i64 p.tg, .int .i64 p.tl, .int .i64 p.wi, .int .i64 p.ho] 23), (st, .cells #[.pointer (some ⟨s, 0, none⟩), .pointer (some ⟨h, 0, none⟩), .int .i64 rp, .int .i64 l2] 52), (w.heap.size, .cells #[.int .i64 p.mn, .int .i64 p.mx, .int .i64 p.tg, .int .i64 p.tl, .int .i64 p.wi, .int .i64 p.ho] 23), (w.heap.size + 1, .cells #[.int .i64 0, .int .i64 0, .int .i64 0, .int .i64 0, .int .i64 0] 39), (w.heap.size + 2, .cells #[.int .i64 k, .int .i64 c, .int .i64 rp, .int .i64 sv, .int .i64 l2] 39), (Y, .cells #[.int .i64 ot, .int .i64 ol, .int .i64 ow, .int .i64 orr, .int .i64 oy] 66)]))
      refine wp_store_row 66 _ _ rfl Y #[.int .i64 ot, .int .i64 ol, .int .i64 ow, .int .i64 orr, .int .i64 oy] rfl rfl 66 #[.int .i64 0, .int .i64 0, .int .i64 0, .int .i64 0, .int .i64 0] (hS.1.1.2.heap 5 rfl) advSize5 rfl (by simp [Value.oneCell']) ?_
      have hF5 := hS.1.1.1.setr hX #[.int .i64 ot, .int .i64 ol, .int .i64 ow, .int .i64 orr, .int .i64 oy]
      refine ⟨_, ⟨hF5, hS.1.1.2.setRow 5 rfl⟩, hst5, .inl (by decide), ?_⟩
      clear hS hF5 hst
      try simp only [act_norm]
      have hst := hst5
      clear hst5
      refine wpAnyE_take 17 rfl (by kernel_rfl) (by kernel_rfl) (by kernel_rfl) (fun _ _ _ h => h) hst (EffB.pure rfl (fun _ => rfl)) (.inr (EffB.pure rfl (fun _ => rfl))) ?_
      simp only [act_norm]
      refine wpAnyE_done (by kernel_rfl) (fun wd hS => ?_) _
      have F8 := Lib.hid hS.1
      have M8 := Lib.hid hS.2
      clear hS
      go_wp2_with fail
      refine wp_region_E mixed [5] hst ⟨F8.out.below (below_drew (Below.refl _ _)), M8.out.drewN 1⟩ ?_
      refine wpAnyE_take 0 rfl (by kernel_rfl) (by kernel_rfl) (by kernel_rfl) (fun _ _ _ h => h) hst (EffB.pure rfl (fun _ => rfl)) (.inr (EffB.pure rfl (fun _ => rfl))) ?_
      simp only [act_norm]
      refine wpAnyE_take 1 (v := .pointer (some ⟨st, 0, none⟩)) rfl (by kernel_rfl) (by kernel_rfl) (by kernel_rfl) (fun _ _ _ h => h) hst (EffB.run rfl rfl (fun wd hS => ?_)) (.inr (EffB.run rfl rfl (fun wd hS => ?_))) ?_
      · (go_wp2; exact ⟨rfl, Below.refl _ _⟩)
      · (go_wp2; exact ⟨rfl, Below.refl _ _⟩)
      simp only [act_norm]
      refine wpAnyE_take 2 (v := .pointer (some ⟨st, 1, none⟩)) rfl (by kernel_rfl) (by kernel_rfl) (by kernel_rfl) (fun _ _ _ h => h) hst (EffB.run rfl rfl (fun wd hS => ?_)) (.inr (EffB.run rfl rfl (fun wd hS => ?_))) ?_
      · (go_wp2; exact ⟨rfl, Below.refl _ _⟩)
      · (go_wp2; exact ⟨rfl, Below.refl _ _⟩)
      simp only [act_norm]
      refine wpAnyE_take 3 (v := .pointer (some ⟨h, 0, none⟩)) rfl (by kernel_rfl) (by kernel_rfl) (by kernel_rfl) (fun _ _ _ h => h) hst (EffB.run rfl rfl (fun wd hS => ?_)) (.inl (by kernel_rfl)) ?_
      · (have c2 : wd.cell? ⟨st, 1, none⟩ = some (.pointer (some ⟨h, 0, none⟩)) := by rw [cell_of_row _ _ _ _ _ _ (hS.2.heap 1 rfl)]; rfl); go_wp2; exact ⟨rfl, Below.refl _ _⟩
      simp only [act_norm]
      refine wpAnyE_take 4 (v := .agg #[.int .i64 ot, .int .i64 ol, .int .i64 ow, .int .i64 orr, .int .i64 oy]) rfl (by kernel_rfl) (by kernel_rfl) (by kernel_rfl) (fun _ _ _ h => h) hst (EffB.run rfl rfl (fun wd hS => ?_)) (.inl (by kernel_rfl)) ?_
      · exact wp_load_row 66 _ rfl (Y) rfl 66 #[.int .i64 ot, .int .i64 ol, .int .i64 ow, .int .i64 orr, .int .i64 oy] (0, 0) _ (hS.2.heap 5 rfl) Tryz.underlying66 rfl (by kernel_rfl) ⟨rfl, Below.refl _ _⟩
      simp only [act_norm]
      refine wpAnyE_one 5 rfl (by kernel_rfl) rfl (fun wd hS => ?_)
      have P9 := Lib.hid (hist_add hS.1.his (by have h1 := hS.1.ser.low; have h2 := hS.1.ser.lt; omega) ⟨ot, ol, ow, orr, oy⟩)
      go_wp2_with fail
      (with_reducible refine P9.out.mono ?_)
      rintro e w9 ⟨rfl, vh9, hh9, ht9, hv9⟩
      have hstN := stab_and (stab_and (stab_fol (B := B) (s := s) (h := h) (r := r) (vs := vs7) (vh := vh9) (u := u) (sa := 64) (ro := 16) (f := ⟨S, Ring.next 16 past ⟨ot, ol, ow, orr, oy⟩, rows⟩)) (stab_mem (w := w0) (bs := [(P0, .cells #[.int .i64 p.mn, .int .i64 p.mx, .int .i64 p.tg, .int .i64 p.tl, .int .i64 p.wi, .int .i64 p.ho] 23), (st, .cells #[.pointer (some ⟨s, 0, none⟩), .pointer (some ⟨h, 0, none⟩), .int .i64 rp, .int .i64 l2] 52), (w.heap.size, .cells #[.int .i64 p.mn, .int .i64 p.mx, .int .i64 p.tg, .int .i64 p.tl, .int .i64 p.wi, .int .i64 p.ho] 23), (w.heap.size + 1, .cells #[.int .i64 0, .int .i64 0, .int .i64 0, .int .i64 0, .int .i64 0] 39), (w.heap.size + 2, .cells #[.int .i64 k, .int .i64 c, .int .i64 rp, .int .i64 sv, .int .i64 l2] 39), (Y, .cells #[.int .i64 ot, .int .i64 ol, .int .i64 ow, .int .i64 orr, .int .i64 oy] 66)]))) (stab_prop (q := Off st s h r vs7 vh9 u ∧ Off (w.heap.size + 1) s h r vs7 vh9 u))
      have hlw := hS.1.low
      have h4 : ∀ x, (x = r ∨ vh.ownBlock = some x) → B ≤ x ∧ x < w.heap.size ∧ x ≠ st := fun x hx => ⟨(hlow.2.1 x hx).1, (hlow.2.1 x hx).2, fun e => by subst e; rcases hx with hx | hx; exact OFF.out.r hx; exact OFF.out.vh hx⟩
      refine ⟨_, ⟨⟨hS.1.add hh9 ht9 hv9, hS.2.turnedL (B := B) (N := w.heap.size) (st := st) ht9 h4 hB0 (fun i x o hi => by rcases i with _ | _ | _ | _ | _ | _ | i <;> simp at hi <;> omega)⟩, OFF7.out.putH (hS.2.lt (i := 1) rfl) hv9, OFR7.out.putH (hS.2.lt (i := 3) rfl) hv9⟩, hstN, ?_⟩
      clear hS hh9 ht9 hv9 P9 hst F8 M8 hlw h4
      try simp only [act_norm]
      have hst := hstN
      clear hstN
      refine wpAnyE_done (by kernel_rfl) (fun wd hS => ?_) _
      have M9 := Lib.hid (hS.1.2.setCell 1 2 (.int .i64 orr) rfl)
      have F9 := Lib.hid (hS.1.1.setc hS.2.1 2 (.int .i64 orr))
      have OFF9 := Lib.hid hS.2.1
      have OFR9 := Lib.hid hS.2.2
      have x3 := hS.1.2.cell 5 3 rfl rfl
      have y2 := hS.1.2.cell 1 2 rfl rfl
      have z2 := hS.1.2.free 1 2 rfl
      have KX := Lib.hid (M9.out.heap 4 rfl)
      have KR := Lib.hid (M9.out.heap 3 rfl)
      clear hS hst
      go_wp2_with (first | ((with_reducible refine wpList_load_rowAs rfl 39 _ rfl ((w.heap.size + 2)) ?_ 39 #[.int .i64 k, .int .i64 c, .int .i64 rp, .int .i64 sv, .int .i64 l2] (0, 0) _ 5 ?_ Tryz.underlying39 rfl (by kernel_rfl) ?_ ?_); exact rfl; exact KX.out; exact rfl) | ((with_reducible refine wpList_store_rowAs rfl 39 _ _ rfl ((w.heap.size + 1)) #[.int .i64 k, .int .i64 c, .int .i64 rp, .int .i64 sv, .int .i64 l2] ?_ ?_ 39 #[.int .i64 0, .int .i64 0, .int .i64 0, .int .i64 0, .int .i64 0] 5 ?_ (by kernel_rfl) rfl rfl (by simp [Value.oneCell']) ?_); exact rfl; exact rfl; exact KR.out))
      have MA := M9.out.setRow (cs := #[.int .i64 k, .int .i64 c, .int .i64 rp, .int .i64 sv, .int .i64 l2]) 3 rfl
      have FA := F9.out.setr OFR9.out #[.int .i64 k, .int .i64 c, .int .i64 rp, .int .i64 sv, .int .i64 l2]
      exact bodyPost_ret (results_cell_row rfl _ _ (w.heap.size + 1) 39 #[.int .i64 k, .int .i64 c, .int .i64 rp, .int .i64 sv, .int .i64 l2] (0, 0) _ rfl (MA.heap 3 rfl) Tryz.underlying39 rfl (by kernel_rfl)) rfl ⟨rfl, _, _, FA, MA.init (cs := [(w.heap.size, .cells #[.int .i64 p.mn, .int .i64 p.mx, .int .i64 p.tg, .int .i64 p.tl, .int .i64 p.wi, .int .i64 p.ho] 23), (w.heap.size + 1, .cells #[.int .i64 k, .int .i64 c, .int .i64 rp, .int .i64 sv, .int .i64 l2] 39), (w.heap.size + 2, .cells #[.int .i64 k, .int .i64 c, .int .i64 rp, .int .i64 sv, .int .i64 l2] 39), (Y, .cells #[.int .i64 ot, .int .i64 ol, .int .i64 ow, .int .i64 orr, .int .i64 oy] 66)]), OFF9.out⟩
  · have hX := hS.1.off (X := wd.heap.size) (Nat.le_refl _)
    have hXlt : w.heap.size + 2 < wd.heap.size := hS.2.lt (i := 4) rfl
    have hstx : st < wd.heap.size := hS.2.lt (i := 1) rfl
    have hstN := stab_and (stab_fol (B := B) (s := s) (h := h) (r := r) (vs := vs7) (vh := vh) (u := u) (sa := 64) (ro := 16) (f := ⟨S, past, rows⟩)) (stab_mem (w := w0) (bs := [(P0, .cells #[.int .i64 p.mn, .int .i64 p.mx, .int .i64 p.tg, .int .i64 p.tl, .int .i64 p.wi, .int .i64 p.ho] 23), (st, .cells #[.pointer (some ⟨s, 0, none⟩), .pointer (some ⟨h, 0, none⟩), .int .i64 rp, .int .i64 l2] 52), (w.heap.size, .cells #[.int .i64 p.mn, .int .i64 p.mx, .int .i64 p.tg, .int .i64 p.tl, .int .i64 p.wi, .int .i64 p.ho] 23), (w.heap.size + 1, .cells #[.int .i64 0, .int .i64 0, .int .i64 0, .int .i64 0, .int .i64 0] 39), (w.heap.size + 2, .cells #[.int .i64 k, .int .i64 c, .int .i64 rp, .int .i64 sv, .int .i64 l2] 39), (wd.heap.size, .cells #[.int .i64 0, .int .i64 0, .int .i64 0, .int .i64 0, .int .i64 0] 66)]))
    have X4 := Lib.hid (And.intro (hS.1.below (below1 wd (.cells #[.int .i64 0, .int .i64 0, .int .i64 0, .int .i64 0, .int .i64 0] 66))) (hS.2.alloc (.cells #[.int .i64 0, .int .i64 0, .int .i64 0, .int .i64 0, .int .i64 0] 66)))
    clear hS
    go_wp2
    refine ⟨_, X4.out, hstN, (by first | exact (fun _ h => ⟨h.1, h.2.init⟩) | exact .inr (fun _ h => ⟨h.1, h.2.init⟩)), ?_⟩
    obtain ⟨Y, hY⟩ : ∃ Y, wd.heap.size = Y := ⟨_, rfl⟩
    rw [hY] at hstN hX hXlt hstx ⊢
    clear X4 hY hst
    try simp only [act_norm]
    have hst := hstN
    clear hstN
    refine wpAnyE_one 5 rfl (by kernel_rfl) rfl (fun wd hS => ?_)
    have P4 := ser_list hS.1.ser
    simp only [← ELS.out] at P4
    go_wp2_with fail
    (with_reducible refine P4.mono ?_)
    rintro e w4 ⟨p4, c4, rfl, _, hs4, hb4⟩
    have hstN := stab_and hst (stab_sampsF (q := p4) (l := S))
    refine ⟨_, ⟨hst _ _ hS hb4, hs4⟩, hstN, (by first | exact (fun _ h => h.1) | exact .inr (fun _ h => h.1)), ?_⟩
    try simp only [act_norm]
    clear hS hs4 hb4 P4 hst
    have hst := hstN
    clear hstN
    refine wpAnyE_one 10 rfl (by kernel_rfl) rfl (fun wd hS => ?_)
    have P5 := hist_list hS.1.1.his
    simp only [← ELP.out] at P5
    go_wp2_with fail
    (with_reducible refine P5.mono ?_)
    rintro e w5 ⟨p5, c5, rfl, _, hs5, hb5⟩
    have hstN := stab_and hst (stab_advs (q := p5) (l := past))
    refine ⟨_, ⟨hst _ _ hS hb5, hs5⟩, hstN, (by first | exact (fun _ h => h.1) | exact .inr (fun _ h => h.1)), ?_⟩
    try simp only [act_norm]
    clear hS hs5 hb5 P5 hst
    have hst := hstN
    clear hstN
    refine wpAnyE_take 11 (v := .tuple #[.agg #[.int .i64 ot, .int .i64 ol, .int .i64 ow, .int .i64 orr, .int .i64 oy], .int .i64 0]) rfl (by kernel_rfl) (by kernel_rfl) (by kernel_rfl) (fun _ _ _ h => h) hst (EffB.run rfl rfl (fun wd hS => ?_)) (.inl (by kernel_rfl)) ?_
    · (go_wp2_with fail; (with_reducible refine (HD.out p4 c4 p5 c5 wd hS.1.2 hS.2).mono ?_); rintro e w'' ⟨rfl, hb⟩; exact ⟨rfl, hb⟩)
    simp only [act_norm]
    refine wpAnyE_take 12 rfl (by kernel_rfl) (by kernel_rfl) (by kernel_rfl) (fun _ _ _ h => h) hst (EffB.pure rfl (fun _ => rfl)) (.inr (EffB.pure rfl (fun _ => rfl))) ?_
    simp only [act_norm]
    refine wpAnyE_take 13 (v := .agg #[.int .i64 ot, .int .i64 ol, .int .i64 ow, .int .i64 orr, .int .i64 oy]) rfl (by kernel_rfl) (by kernel_rfl) (by kernel_rfl) (fun _ _ _ h => h) hst (EffB.run rfl rfl (fun wd hS => ?_)) (.inr (EffB.run rfl rfl (fun wd hS => ?_))) ?_
    · (go_wp2; exact ⟨rfl, Below.refl _ _⟩)
    · (go_wp2; exact ⟨rfl, Below.refl _ _⟩)
    simp only [act_norm]
    refine wpAnyE_take 14 (v := .int .i64 0) rfl (by kernel_rfl) (by kernel_rfl) (by kernel_rfl) (fun _ _ _ h => h) hst (EffB.run rfl rfl (fun wd hS => ?_)) (.inr (EffB.run rfl rfl (fun wd hS => ?_))) ?_
    · (go_wp2; exact ⟨rfl, Below.refl _ _⟩)
    · (go_wp2; exact ⟨rfl, Below.refl _ _⟩)
    simp only [act_norm]
    refine wpAnyE_one 16 rfl (by kernel_rfl) rfl (fun wd hS => ?_)
    have hst5 := stab_and (stab_fol (B := B) (s := s) (h := h) (r := r) (vs := vs7) (vh := vh) (u := u) (sa := 64) (ro := 16) (f := ⟨S, past, rows⟩)) (stab_mem (w := w0) (bs := [(P0, .cells #[.int .i64 p.mn, .int .i64 p.mx, .int .i64 p.tg, .int .i64 p.tl, .int .i64 p.wi, .int .i64 p.ho] 23), (st, .cells #[.pointer (some ⟨s, 0, none⟩), .pointer (some ⟨h, 0, none⟩), .int .i64 rp, .int .i64 l2] 52), (w.heap.size, .cells #[.int .i64 p.mn, .int .i64 p.mx, .int .i64 p.tg, .int .i64 p.tl, .int .i64 p.wi, .int .i64 p.ho] 23), (w.heap.size + 1, .cells #[.int .i64 0, .int .i64 0, .int .i64 0, .int .i64 0, .int .i64 0] 39), (w.heap.size + 2, .cells #[.int .i64 k, .int .i64 c, .int .i64 rp, .int .i64 sv, .int .i64 l2] 39), (Y, .cells #[.int .i64 ot, .int .i64 ol, .int .i64 ow, .int .i64 orr, .int .i64 oy] 66)]))
    refine wp_store_row 66 _ _ rfl Y #[.int .i64 ot, .int .i64 ol, .int .i64 ow, .int .i64 orr, .int .i64 oy] rfl rfl 66 #[.int .i64 0, .int .i64 0, .int .i64 0, .int .i64 0, .int .i64 0] (hS.1.1.2.heap 5 rfl) advSize5 rfl (by simp [Value.oneCell']) ?_
    have hF5 := hS.1.1.1.setr hX #[.int .i64 ot, .int .i64 ol, .int .i64 ow, .int .i64 orr, .int .i64 oy]
    refine ⟨_, ⟨hF5, hS.1.1.2.setRow 5 rfl⟩, hst5, .inl (by decide), ?_⟩
    clear hS hF5 hst
    try simp only [act_norm]
    have hst := hst5
    clear hst5
    refine wpAnyE_take 17 rfl (by kernel_rfl) (by kernel_rfl) (by kernel_rfl) (fun _ _ _ h => h) hst (EffB.pure rfl (fun _ => rfl)) (.inr (EffB.pure rfl (fun _ => rfl))) ?_
    simp only [act_norm]
    refine wpAnyE_done (by kernel_rfl) (fun wd hS => ?_) _
    have F8 := Lib.hid hS.1
    have M8 := Lib.hid hS.2
    clear hS
    go_wp2_with fail
    refine wp_region_E mixed [5] hst ⟨F8.out.below (below_drew (Below.refl _ _)), M8.out.drewN 1⟩ ?_
    refine wpAnyE_take 0 rfl (by kernel_rfl) (by kernel_rfl) (by kernel_rfl) (fun _ _ _ h => h) hst (EffB.pure rfl (fun _ => rfl)) (.inr (EffB.pure rfl (fun _ => rfl))) ?_
    simp only [act_norm]
    refine wpAnyE_take 1 (v := .pointer (some ⟨st, 0, none⟩)) rfl (by kernel_rfl) (by kernel_rfl) (by kernel_rfl) (fun _ _ _ h => h) hst (EffB.run rfl rfl (fun wd hS => ?_)) (.inr (EffB.run rfl rfl (fun wd hS => ?_))) ?_
    · (go_wp2; exact ⟨rfl, Below.refl _ _⟩)
    · (go_wp2; exact ⟨rfl, Below.refl _ _⟩)
    simp only [act_norm]
    refine wpAnyE_take 2 (v := .pointer (some ⟨st, 1, none⟩)) rfl (by kernel_rfl) (by kernel_rfl) (by kernel_rfl) (fun _ _ _ h => h) hst (EffB.run rfl rfl (fun wd hS => ?_)) (.inr (EffB.run rfl rfl (fun wd hS => ?_))) ?_
    · (go_wp2; exact ⟨rfl, Below.refl _ _⟩)
    · (go_wp2; exact ⟨rfl, Below.refl _ _⟩)
    simp only [act_norm]
    refine wpAnyE_take 3 (v := .pointer (some ⟨h, 0, none⟩)) rfl (by kernel_rfl) (by kernel_rfl) (by kernel_rfl) (fun _ _ _ h => h) hst (EffB.run rfl rfl (fun wd hS => ?_)) (.inl (by kernel_rfl)) ?_
    · (have c2 : wd.cell? ⟨st, 1, none⟩ = some (.pointer (some ⟨h, 0, none⟩)) := by rw [cell_of_row _ _ _ _ _ _ (hS.2.heap 1 rfl)]; rfl); go_wp2; exact ⟨rfl, Below.refl _ _⟩
    simp only [act_norm]
    refine wpAnyE_take 4 (v := .agg #[.int .i64 ot, .int .i64 ol, .int .i64 ow, .int .i64 orr, .int .i64 oy]) rfl (by kernel_rfl) (by kernel_rfl) (by kernel_rfl) (fun _ _ _ h => h) hst (EffB.run rfl rfl (fun wd hS => ?_)) (.inl (by kernel_rfl)) ?_
    · exact wp_load_row 66 _ rfl (Y) rfl 66 #[.int .i64 ot, .int .i64 ol, .int .i64 ow, .int .i64 orr, .int .i64 oy] (0, 0) _ (hS.2.heap 5 rfl) Tryz.underlying66 rfl (by kernel_rfl) ⟨rfl, Below.refl _ _⟩
    simp only [act_norm]
    refine wpAnyE_one 5 rfl (by kernel_rfl) rfl (fun wd hS => ?_)
    have P9 := Lib.hid (hist_add hS.1.his (by have h1 := hS.1.ser.low; have h2 := hS.1.ser.lt; omega) ⟨ot, ol, ow, orr, oy⟩)
    go_wp2_with fail
    (with_reducible refine P9.out.mono ?_)
    rintro e w9 ⟨rfl, vh9, hh9, ht9, hv9⟩
    have hstN := stab_and (stab_and (stab_fol (B := B) (s := s) (h := h) (r := r) (vs := vs7) (vh := vh9) (u := u) (sa := 64) (ro := 16) (f := ⟨S, Ring.next 16 past ⟨ot, ol, ow, orr, oy⟩, rows⟩)) (stab_mem (w := w0) (bs := [(P0, .cells #[.int .i64 p.mn, .int .i64 p.mx, .int .i64 p.tg, .int .i64 p.tl, .int .i64 p.wi, .int .i64 p.ho] 23), (st, .cells #[.pointer (some ⟨s, 0, none⟩), .pointer (some ⟨h, 0, none⟩), .int .i64 rp, .int .i64 l2] 52), (w.heap.size, .cells #[.int .i64 p.mn, .int .i64 p.mx, .int .i64 p.tg, .int .i64 p.tl, .int .i64 p.wi, .int .i64 p.ho] 23), (w.heap.size + 1, .cells #[.int .i64 0, .int .i64 0, .int .i64 0, .int .i64 0, .int .i64 0] 39), (w.heap.size + 2, .cells #[.int .i64 k, .int .i64 c, .int .i64 rp, .int .i64 sv, .int .i64 l2] 39), (Y, .cells #[.int .i64 ot, .int .i64 ol, .int .i64 ow, .int .i64 orr, .int .i64 oy] 66)]))) (stab_prop (q := Off st s h r vs7 vh9 u ∧ Off (w.heap.size + 1) s h r vs7 vh9 u))
    have hlw := hS.1.low
    have h4 : ∀ x, (x = r ∨ vh.ownBlock = some x) → B ≤ x ∧ x < w.heap.size ∧ x ≠ st := fun x hx => ⟨(hlow.2.1 x hx).1, (hlow.2.1 x hx).2, fun e => by subst e; rcases hx with hx | hx; exact OFF.out.r hx; exact OFF.out.vh hx⟩
    refine ⟨_, ⟨⟨hS.1.add hh9 ht9 hv9, hS.2.turnedL (B := B) (N := w.heap.size) (st := st) ht9 h4 hB0 (fun i x o hi => by rcases i with _ | _ | _ | _ | _ | _ | i <;> simp at hi <;> omega)⟩, OFF7.out.putH (hS.2.lt (i := 1) rfl) hv9, OFR7.out.putH (hS.2.lt (i := 3) rfl) hv9⟩, hstN, ?_⟩
    clear hS hh9 ht9 hv9 P9 hst F8 M8 hlw h4
    try simp only [act_norm]
    have hst := hstN
    clear hstN
    refine wpAnyE_done (by kernel_rfl) (fun wd hS => ?_) _
    have M9 := Lib.hid (hS.1.2.setCell 1 2 (.int .i64 orr) rfl)
    have F9 := Lib.hid (hS.1.1.setc hS.2.1 2 (.int .i64 orr))
    have OFF9 := Lib.hid hS.2.1
    have OFR9 := Lib.hid hS.2.2
    have x3 := hS.1.2.cell 5 3 rfl rfl
    have y2 := hS.1.2.cell 1 2 rfl rfl
    have z2 := hS.1.2.free 1 2 rfl
    have KX := Lib.hid (M9.out.heap 4 rfl)
    have KR := Lib.hid (M9.out.heap 3 rfl)
    clear hS hst
    go_wp2_with (first | ((with_reducible refine wpList_load_rowAs rfl 39 _ rfl ((w.heap.size + 2)) ?_ 39 #[.int .i64 k, .int .i64 c, .int .i64 rp, .int .i64 sv, .int .i64 l2] (0, 0) _ 5 ?_ Tryz.underlying39 rfl (by kernel_rfl) ?_ ?_); exact rfl; exact KX.out; exact rfl) | ((with_reducible refine wpList_store_rowAs rfl 39 _ _ rfl ((w.heap.size + 1)) #[.int .i64 k, .int .i64 c, .int .i64 rp, .int .i64 sv, .int .i64 l2] ?_ ?_ 39 #[.int .i64 0, .int .i64 0, .int .i64 0, .int .i64 0, .int .i64 0] 5 ?_ (by kernel_rfl) rfl rfl (by simp [Value.oneCell']) ?_); exact rfl; exact rfl; exact KR.out))
    have MA := M9.out.setRow (cs := #[.int .i64 k, .int .i64 c, .int .i64 rp, .int .i64 sv, .int .i64 l2]) 3 rfl
    have FA := F9.out.setr OFR9.out #[.int .i64 k, .int .i64 c, .int .i64 rp, .int .i64 sv, .int .i64 l2]
    exact bodyPost_ret (results_cell_row rfl _ _ (w.heap.size + 1) 39 #[.int .i64 k, .int .i64 c, .int .i64 rp, .int .i64 sv, .int .i64 l2] (0, 0) _ rfl (MA.heap 3 rfl) Tryz.underlying39 rfl (by kernel_rfl)) rfl ⟨rfl, _, _, FA, MA.init (cs := [(w.heap.size, .cells #[.int .i64 p.mn, .int .i64 p.mx, .int .i64 p.tg, .int .i64 p.tl, .int .i64 p.wi, .int .i64 p.ho] 23), (w.heap.size + 1, .cells #[.int .i64 k, .int .i64 c, .int .i64 rp, .int .i64 sv, .int .i64 l2] 39), (w.heap.size + 2, .cells #[.int .i64 k, .int .i64 c, .int .i64 rp, .int .i64 sv, .int .i64 l2] 39), (Y, .cells #[.int .i64 ot, .int .i64 ol, .int .i64 ow, .int .i64 orr, .int .i64 oy] 66)]), OFF9.out⟩
end Go.Proofs.YtldhbgefpfmkmaaGreat
