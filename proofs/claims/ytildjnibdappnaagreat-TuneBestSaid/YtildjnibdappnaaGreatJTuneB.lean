/- Layer 45: judged decisions that come of samples, and where they lie. -/
import Derived.Test.YtildjnibdappnaaGreatJTuneR
namespace Go.Proofs.YtildjnibdappnaaGreat
open Go.ChangeShapes Go.WideShapes Go.ChangeAt Go.RowKit

/-- Decisions that lie at or above a block. -/
def Adf (A : Nat) (w : World) (q : Option Addr) (l : List Adv) : Prop := Advs w q l ∧ ∀ ad, q = some ad → A ≤ ad.block
theorem Adf.below {A : Nat} {w w' : World} {q : Option Addr} {l : List Adv} (h : Adf A w q l) (hb : Below w.heap.size w w') : Adf A w' q l := ⟨h.1.below hb, h.2⟩
theorem Adf.wide {A A' : Nat} {w : World} {q : Option Addr} {l : List Adv} (h : Adf A w q l) (ha : A' ≤ A) : Adf A' w q l := ⟨h.1, fun ad e => Nat.le_trans ha (h.2 ad e)⟩
theorem Adf.none (A : Nat) (w : World) : Adf A w none [] := ⟨.inl rfl, fun _ h => by cases h⟩
theorem stab_adf {A : Nat} {q : Option Addr} {l : List Adv} : Stab (fun w' => Adf A w' q l) := fun _ _ h hb => h.below hb
theorem Adf.of_in {A B : Nat} {w : World} {q : Option Addr} {l : List Adv} (h : AdvsIn A B w q l) : Adf A w q l := ⟨h.1, fun ad e => (h.2 ad e).1⟩
theorem Adf.setRow {A : Nat} {w : World} {q : Option Addr} {l : List Adv} (h : Adf A w q l) (X : Nat) (hX : X < A) (cs : Array Value) : Adf A (w.setRow X cs) q l :=
  ⟨h.1.turnedF (turned_setRow w X cs) (fun ad e => by have := h.2 ad e; omega), h.2⟩
theorem Adf.of_owns {A : Nat} {w : World} {v : Value} {l : List Adv} (h : Owns w A 5 v l.length (advVals l)) : ∃ q c, v = .slice q l.length c ∧ Adf A w q l := by
  obtain ⟨q, c, hv, _, h3⟩ := advs_of_owns h
  refine ⟨q, c, hv, h3, fun ad e => ?_⟩
  subst hv
  subst e
  exact (h.lt ad.block rfl).1

theorem refFollow_own (p : Pol) (hp : p.In) (q : Option Addr) (cap : Nat) (l : List Samp) (hl : ∀ a ∈ l, a.In) (hb : l.length ≤ 1000) (sa ro : Int) (w : World) (hs : Samps w q l) :
    Calls Tryz.prog 11 #[.agg #[.int .i64 p.mn, .int .i64 p.mx, .int .i64 p.tg, .int .i64 p.tl, .int .i64 p.wi, .int .i64 p.ho], .slice q l.length cap, .int .i64 sa, .int .i64 ro] w fun e w' => ∃ (q' : Option Addr) (c : Nat), e = .returned (.slice q' (Fol.of p l sa ro).length c) ∧ Adf w.heap.size w' q' (Fol.of p l sa ro) ∧ Below w.heap.size w w' := by
  by_cases h : sa < 1 ∨ 256 < sa ∨ ro < 1 ∨ 64 < ro
  · have e0 : Fol.of p l sa ro = [] := if_pos h
    rw [e0]
    exact (refFollow_none p q l.length cap sa ro h w).mono fun e w' ⟨a, b⟩ => ⟨none, 0, a, Adf.none _ _, b⟩
  · have e0 : Fol.of p l sa ro = (FS.at p sa.toNat ro.toNat l l.length).out := if_neg h
    have es : sa = (sa.toNat : Int) := by omega
    have er : ro = (ro.toNat : Int) := by omega
    rw [e0]
    have := refFollow_some p hp q cap l hl hb sa.toNat ro.toNat (by omega) (by omega) (by omega) (by omega) w hs
    rw [← es, ← er] at this
    exact this.mono fun e w' ⟨u, a, b, c⟩ => by
      obtain ⟨q', c', rfl, h3⟩ := Adf.of_owns b
      exact ⟨q', c', a, h3, c⟩


set_option maxHeartbeats 2000000 in
set_option maxRecDepth 100000 in
theorem trial_run_own (p : Pol) (hp : p.In) (hok : p.ok = true) (q : Option Addr) (cap : Nat) (l : List Samp) (hl : ∀ a ∈ l, a.In) (hb : l.length ≤ 1000) (sa ro : Int) (h0 : ¬ sa < 1) (h1 : ¬ 256 < sa) (h2 : ¬ ro < 1) (h3 : ¬ 64 < ro) (w : World) (hs : Samps w q l) :
    Calls Tryz.prog 7 #[.agg #[.int .i64 p.mn, .int .i64 p.mx, .int .i64 p.tg, .int .i64 p.tl, .int .i64 p.wi, .int .i64 p.ho], .slice q l.length cap, .int .i64 sa, .int .i64 ro] w fun e w' => ∃ (u : Option Addr) (d : Nat), e = .returned (.tuple #[.agg (Run.row p (.slice u (Fol.of p l sa ro).length d) (Fol.of p l sa ro)), .int .i64 0]) ∧ Adf w.heap.size w' u (Fol.of p l sa ro) ∧ Below w.heap.size w w' := by
  have HC := Lib.hid (fun W => policy_check p W)
  have he : p.err = 0 := by unfold Pol.err; rw [if_pos hok]
  rw [he] at HC
  have M0 : Hid (Mem w ((w.alloc (.cells #[.int .i64 p.mn, .int .i64 p.mx, .int .i64 p.tg, .int .i64 p.tl, .int .i64 p.wi, .int .i64 p.ho] 23)).alloc (.cells #[.slice none 0 0, .int .i64 0, .int .i64 0, .int .i64 0, .int .i64 0, .int .i64 0, .int .i64 0] 28)) [(w.heap.size, .cells #[.int .i64 p.mn, .int .i64 p.mx, .int .i64 p.tg, .int .i64 p.tl, .int .i64 p.wi, .int .i64 p.ho] 23), (w.heap.size + 1, .cells #[.slice none 0 0, .int .i64 0, .int .i64 0, .int .i64 0, .int .i64 0, .int .i64 0, .int .i64 0] 28)]) := ((Mem.start w).alloc _).allocAs (w.heap.size + 1) _ (by simp)
  have f1 := fun W : World => fun h : Samps W q l => follow_own p hp q cap l hl hb sa ro W h
  have hall := Fol.all p hp l hl sa ro
  have hlen := Fol.length_le p l sa ro
  obtain ⟨r, er⟩ : ∃ r, r = Fol.of p l sa ro := ⟨_, rfl⟩
  simp only [← er] at f1 hall hlen ⊢
  unfold Run.row
  obtain ⟨m, em⟩ : ∃ m, m = r.length := ⟨_, rfl⟩
  have f2 := fun (u : Option Addr) (d : Nat) (hu : u = none → m = 0 ∧ d = 0) (W : World) (h : Advs W u r) => trial_judge p hp u m d r em.symm (fun a ha => (hall a ha).1) (by omega) hu W h
  rw [← em] at hlen
  simp only [← em] at f1 ⊢
  unfold Tri.row at f2 ⊢
  obtain ⟨C, eC⟩ : ∃ x : Int, x = (Adv.changes (Adv.rep r) m : Nat) := ⟨_, rfl⟩
  obtain ⟨T, eT⟩ : ∃ x : Int, x = ((Adv.turns (Adv.rep r) m).1 : Nat) := ⟨_, rfl⟩
  obtain ⟨a, ea⟩ : ∃ x, x = Tri.lo (Adv.rep r) m := ⟨_, rfl⟩
  obtain ⟨b, eb⟩ : ∃ x, x = Tri.hi (Adv.rep r) m := ⟨_, rfl⟩
  obtain ⟨x, ex⟩ : ∃ x, x = Tri.sp (Tri.left p.tg r) m := ⟨_, rfl⟩
  obtain ⟨y, ey⟩ : ∃ x, x = Tri.sh (Tri.left p.tg r) m := ⟨_, rfl⟩
  simp only [← eC, ← eT, ← ea, ← eb, ← ex, ← ey] at f2 ⊢
  have F1 := Lib.hid f1
  have F2 := Lib.hid f2
  have HS := Lib.hid hs
  have d0 : decide (sa < 1) = false := decide_eq_false h0
  have d1 : decide (256 < sa) = false := decide_eq_false h1
  have d2 : decide (ro < 1) = false := decide_eq_false h2
  have d3 : decide (64 < ro) = false := decide_eq_false h3
  obtain ⟨n, en⟩ : ∃ n, n = l.length := ⟨_, rfl⟩
  simp only [← en] at F1 ⊢
  clear he hok f1 f2 eC eT ea eb ex ey em er hall hlen hs hl hp hb h0 h1 h2 h3 en
  go_enter Tryz.func7, Tryz.ntmps7
  have K0 := Lib.hid (M0.out.heap 0 rfl)
  go_wp2_with ((with_reducible refine wpList_load_rowAs rfl 23 _ rfl (w.heap.size) ?_ 23 #[.int .i64 p.mn, .int .i64 p.mx, .int .i64 p.tg, .int .i64 p.tl, .int .i64 p.wi, .int .i64 p.ho] (0, 0) _ 6 ?_ Tryz.underlying23 rfl (by kernel_rfl) ?_ ?_); exact rfl; exact K0.out; exact rfl)
  (with_reducible refine (HC.out _).mono ?_)
  rintro e w1 ⟨rfl, hb1⟩
  have M1 := Lib.hid (M0.out.call hb1)
  clear hb1 M0 K0
  go_wp2_with fail
  have hst := stab_and (stab_mem (w := w) (bs := [(w.heap.size, .cells #[.int .i64 p.mn, .int .i64 p.mx, .int .i64 p.tg, .int .i64 p.tl, .int .i64 p.wi, .int .i64 p.ho] 23), (w.heap.size + 1, .cells #[.slice none 0 0, .int .i64 0, .int .i64 0, .int .i64 0, .int .i64 0, .int .i64 0, .int .i64 0] 28)])) (stab_samps (q := q) (l := l))
  refine wp_region_E mixed [7] hst ⟨M1.out.drewN 1, HS.out.below (M1.out.drewN 1).below⟩ ?_
  refine wpAnyE_take 0 (v := .agg #[.int .i64 p.mn, .int .i64 p.mx, .int .i64 p.tg, .int .i64 p.tl, .int .i64 p.wi, .int .i64 p.ho]) rfl (by kernel_rfl) (by kernel_rfl) (by kernel_rfl) (fun _ _ _ h => h) hst (EffB.run rfl rfl (fun wd hS => ?_)) (.inl (by kernel_rfl)) ?_
  · exact wp_load_row 23 _ rfl (w.heap.size) rfl 23 #[.int .i64 p.mn, .int .i64 p.mx, .int .i64 p.tg, .int .i64 p.tl, .int .i64 p.wi, .int .i64 p.ho] (0, 0) _ (hS.1.heap 0 rfl) Tryz.underlying23 rfl (by kernel_rfl) ⟨rfl, Below.refl _ _⟩
  simp only [act_norm]
  refine wpAnyE_take 1 (v := .agg #[.int .i64 p.mn, .int .i64 p.mx, .int .i64 p.tg, .int .i64 p.tl, .int .i64 p.wi, .int .i64 p.ho]) rfl (by kernel_rfl) (by kernel_rfl) (by kernel_rfl) (fun _ _ _ h => h) hst (EffB.run rfl rfl (fun wd hS => ?_)) (.inl (by kernel_rfl)) ?_
  · exact wp_load_row 23 _ rfl (w.heap.size) rfl 23 #[.int .i64 p.mn, .int .i64 p.mx, .int .i64 p.tg, .int .i64 p.tl, .int .i64 p.wi, .int .i64 p.ho] (0, 0) _ (hS.1.heap 0 rfl) Tryz.underlying23 rfl (by kernel_rfl) ⟨rfl, Below.refl _ _⟩
  simp only [act_norm]
  refine wpAnyE_take 2 rfl (by kernel_rfl) (by kernel_rfl) (by kernel_rfl) (fun _ _ _ h => h) hst (EffB.pure rfl (fun _ => rfl)) (.inr (EffB.pure rfl (fun _ => rfl))) ?_
  simp only [act_norm]
  refine wpAnyE_take 3 rfl (by kernel_rfl) (by kernel_rfl) (by kernel_rfl) (fun _ _ _ h => h) hst (EffB.pure rfl (fun _ => rfl)) (.inr (EffB.pure rfl (fun _ => rfl))) ?_
  simp only [act_norm]
  refine wpAnyE_take 4 rfl (by kernel_rfl) (by kernel_rfl) (by kernel_rfl) (fun _ _ _ h => h) hst (EffB.pure rfl (fun _ => rfl)) (.inr (EffB.pure rfl (fun _ => rfl))) ?_
  simp only [act_norm]
  refine wpAnyE_one 5 rfl (by kernel_rfl) rfl (fun wd hS => ?_)
  go_wp2_with fail
  (with_reducible refine (F1.out _ hS.2).mono ?_)
  rintro e w5 ⟨u, d, rfl, hud, hA, hb5⟩
  have hst2 := stab_and hst (stab_advs (q := u) (l := r))
  refine ⟨_, ⟨hst _ _ hS hb5, hA⟩, hst2, (by first | exact fun _ h => h.1 | exact .inr fun _ h => h.1), ?_⟩
  try simp only [act_norm]
  have HUD := Lib.hid hud
  clear hA hb5 hS hst M1 hud
  have hst := hst2
  refine wpAnyE_one 6 rfl (by kernel_rfl) rfl (fun wd hS => ?_)
  go_wp2_with fail
  (with_reducible refine (F2.out u d HUD.out _ hS.2).mono ?_)
  rintro e w6 ⟨q1, d1, rfl, hA, _, hb6⟩
  have hlo : w.heap.size + 2 ≤ wd.heap.size := by have := hS.1.1.lt (i := 1) rfl; omega
  obtain ⟨A, eA⟩ : ∃ A, A = wd.heap.size := ⟨_, rfl⟩
  rw [← eA] at hA hlo
  have hst3 := stab_and hst (stab_advsIn (A := A) (B := w6.heap.size) (q := q1) (l := r))
  have hS6 := hst _ _ hS hb6
  refine ⟨_, ⟨hS6, hA⟩, hst3, (by first | exact fun _ h => h.1 | exact .inr fun _ h => h.1), ?_⟩
  try simp only [act_norm]
  have hB6 : w.heap.size + 2 ≤ w6.heap.size := by have := hS6.1.1.lt (i := 1) rfl; omega
  obtain ⟨B, eB⟩ : ∃ B, B = w6.heap.size := ⟨_, rfl⟩
  rw [← eB] at hst3 hB6
  rw [← eB]
  clear hA hb6 hS hS6 hst hst2 eA eB
  refine wpAnyE_one 7 rfl (by kernel_rfl) rfl (fun wd hS => ?_)
  refine wp_store_row 28 _ _ rfl (w.heap.size + 1) #[.slice q1 m d1, .int .i64 C, .int .i64 T, .int .i64 a, .int .i64 b, .int .i64 x, .int .i64 y] rfl rfl 28 #[.slice none 0 0, .int .i64 0, .int .i64 0, .int .i64 0, .int .i64 0, .int .i64 0, .int .i64 0] (hS.1.1.1.heap 1 rfl) runResSize rfl (by simp [Value.oneCell']) ?_
  have hst4 := stab_and (stab_mem (w := w) (bs := [(w.heap.size, .cells #[.int .i64 p.mn, .int .i64 p.mx, .int .i64 p.tg, .int .i64 p.tl, .int .i64 p.wi, .int .i64 p.ho] 23), (w.heap.size + 1, .cells #[.slice q1 m d1, .int .i64 C, .int .i64 T, .int .i64 a, .int .i64 b, .int .i64 x, .int .i64 y] 28)])) (stab_advsIn (A := A) (B := B) (q := q1) (l := r))
  refine ⟨_, ⟨hS.1.1.1.setRow 1 rfl, hS.2.setRow (w.heap.size + 1) (.inl (by omega)) _⟩, hst4, .inl (by decide), ?_⟩
  try simp only [act_norm]
  clear hS hst3
  have hst := hst4
  refine wpAnyE_take 8 rfl (by kernel_rfl) (by kernel_rfl) (by kernel_rfl) (fun _ _ _ h => h) hst (EffB.pure rfl (fun _ => rfl)) (.inr (EffB.pure rfl (fun _ => rfl))) ?_
  simp only [act_norm]
  refine wpAnyE_done (by kernel_rfl) (fun wd hS => ?_) _
  have MF := Lib.hid hS.1
  have AF := Lib.hid hS.2
  clear hS hst hst4
  go_wp2
  exact bodyPost_ret (results_row_tmp rfl _ _ (w.heap.size + 1) 28 #[.slice q1 m d1, .int .i64 C, .int .i64 T, .int .i64 a, .int .i64 b, .int .i64 x, .int .i64 y] (0, 0) _ 7 _ rfl rfl (MF.out.heap 1 rfl) Tryz.underlying28 rfl runResSize rfl) rfl ⟨q1, d1, rfl, (Adf.of_in AF.out).wide (by omega), MF.out.below⟩

set_option maxHeartbeats 2000000 in
set_option maxRecDepth 100000 in
theorem run45_own (p : Pol) (hp : p.In) (hok : p.ok = true) (q : Option Addr) (cap : Nat) (l : List Samp) (hl : ∀ a ∈ l, a.In) (hb : l.length ≤ 1000) (sa ro : Int) (h0 : ¬ sa < 1) (h1 : ¬ 256 < sa) (h2 : ¬ ro < 1) (h3 : ¬ 64 < ro) (w : World) (hs : Samps w q l) :
    Calls Tryz.prog 18 #[.agg #[.int .i64 p.mn, .int .i64 p.mx, .int .i64 p.tg, .int .i64 p.tl, .int .i64 p.wi, .int .i64 p.ho], .slice q l.length cap, .int .i64 sa, .int .i64 ro] w fun e w' => ∃ (u : Option Addr) (d : Nat), e = .returned (.tuple #[.agg (Run.row p (.slice u (Fol.of p l sa ro).length d) (Fol.of p l sa ro)), .int .i64 0]) ∧ Adf w.heap.size w' u (Fol.of p l sa ro) ∧ Below w.heap.size w w' := by
  have HC := Lib.hid (fun W => ref_polRight p W)
  rw [hok] at HC
  have M0 : Hid (Mem w ((w.alloc (.cells #[.int .i64 p.mn, .int .i64 p.mx, .int .i64 p.tg, .int .i64 p.tl, .int .i64 p.wi, .int .i64 p.ho] 23)).alloc (.cells #[.slice none 0 0, .int .i64 0, .int .i64 0, .int .i64 0, .int .i64 0, .int .i64 0, .int .i64 0] 34)) [(w.heap.size, .cells #[.int .i64 p.mn, .int .i64 p.mx, .int .i64 p.tg, .int .i64 p.tl, .int .i64 p.wi, .int .i64 p.ho] 23), (w.heap.size + 1, .cells #[.slice none 0 0, .int .i64 0, .int .i64 0, .int .i64 0, .int .i64 0, .int .i64 0, .int .i64 0] 34)]) := ((Mem.start w).alloc _).allocAs (w.heap.size + 1) _ (by simp)
  have f1 := fun W : World => fun h : Samps W q l => refFollow_own p hp q cap l hl hb sa ro W h
  have hall := Fol.all p hp l hl sa ro
  have hlen := Fol.length_le p l sa ro
  obtain ⟨r, er⟩ : ∃ r, r = Fol.of p l sa ro := ⟨_, rfl⟩
  simp only [← er] at f1 hall hlen ⊢
  unfold Run.row
  obtain ⟨m, em⟩ : ∃ m, m = r.length := ⟨_, rfl⟩
  have f2 := fun (u : Option Addr) (d : Nat) (W : World) (h : Adf (w.heap.size + 2) W u r) => ref44_judge p hp u m d r em.symm (fun a ha => (hall a ha).1) (by omega) W h.1
  rw [← em] at hlen
  simp only [← em] at f1 ⊢
  unfold Tri.row at f2 ⊢
  obtain ⟨C, eC⟩ : ∃ x : Int, x = (Adv.changes (Adv.rep r) m : Nat) := ⟨_, rfl⟩
  obtain ⟨T, eT⟩ : ∃ x : Int, x = ((Adv.turns (Adv.rep r) m).1 : Nat) := ⟨_, rfl⟩
  obtain ⟨a, ea⟩ : ∃ x, x = Tri.lo (Adv.rep r) m := ⟨_, rfl⟩
  obtain ⟨b, eb⟩ : ∃ x, x = Tri.hi (Adv.rep r) m := ⟨_, rfl⟩
  obtain ⟨x, ex⟩ : ∃ x, x = Tri.sp (Tri.left p.tg r) m := ⟨_, rfl⟩
  obtain ⟨y, ey⟩ : ∃ x, x = Tri.sh (Tri.left p.tg r) m := ⟨_, rfl⟩
  simp only [← eC, ← eT, ← ea, ← eb, ← ex, ← ey] at f2 ⊢
  have F1 := Lib.hid f1
  have F2 := Lib.hid f2
  have HS := Lib.hid hs
  have d0 : decide (sa < 1) = false := decide_eq_false h0
  have d1 : decide (256 < sa) = false := decide_eq_false h1
  have d2 : decide (ro < 1) = false := decide_eq_false h2
  have d3 : decide (64 < ro) = false := decide_eq_false h3
  obtain ⟨n, en⟩ : ∃ n, n = l.length := ⟨_, rfl⟩
  simp only [← en] at F1 ⊢
  clear hok f1 f2 eC eT ea eb ex ey em er hall hlen hs hl hp hb h0 h1 h2 h3 en
  go_enter Tryz.func18, Tryz.ntmps18
  have K0 := Lib.hid (M0.out.heap 0 rfl)
  go_wp2_with ((with_reducible refine wpList_load_rowAs rfl 23 _ rfl (w.heap.size) ?_ 23 #[.int .i64 p.mn, .int .i64 p.mx, .int .i64 p.tg, .int .i64 p.tl, .int .i64 p.wi, .int .i64 p.ho] (0, 0) _ 6 ?_ Tryz.underlying23 rfl (by kernel_rfl) ?_ ?_); exact rfl; exact K0.out; exact rfl)
  (with_reducible refine (HC.out _).mono ?_)
  rintro e w1 ⟨rfl, hb1⟩
  have M1 := Lib.hid (M0.out.call hb1)
  clear hb1 M0 K0
  go_wp2_with fail
  have hst := stab_and (stab_mem (w := w) (bs := [(w.heap.size, .cells #[.int .i64 p.mn, .int .i64 p.mx, .int .i64 p.tg, .int .i64 p.tl, .int .i64 p.wi, .int .i64 p.ho] 23), (w.heap.size + 1, .cells #[.slice none 0 0, .int .i64 0, .int .i64 0, .int .i64 0, .int .i64 0, .int .i64 0, .int .i64 0] 34)])) (stab_samps (q := q) (l := l))
  refine wp_region_E mixed [7] hst ⟨M1.out.drewN 1, HS.out.below (M1.out.drewN 1).below⟩ ?_
  refine wpAnyE_take 0 (v := .agg #[.int .i64 p.mn, .int .i64 p.mx, .int .i64 p.tg, .int .i64 p.tl, .int .i64 p.wi, .int .i64 p.ho]) rfl (by kernel_rfl) (by kernel_rfl) (by kernel_rfl) (fun _ _ _ h => h) hst (EffB.run rfl rfl (fun wd hS => ?_)) (.inl (by kernel_rfl)) ?_
  · exact wp_load_row 23 _ rfl (w.heap.size) rfl 23 #[.int .i64 p.mn, .int .i64 p.mx, .int .i64 p.tg, .int .i64 p.tl, .int .i64 p.wi, .int .i64 p.ho] (0, 0) _ (hS.1.heap 0 rfl) Tryz.underlying23 rfl (by kernel_rfl) ⟨rfl, Below.refl _ _⟩
  simp only [act_norm]
  refine wpAnyE_take 1 (v := .agg #[.int .i64 p.mn, .int .i64 p.mx, .int .i64 p.tg, .int .i64 p.tl, .int .i64 p.wi, .int .i64 p.ho]) rfl (by kernel_rfl) (by kernel_rfl) (by kernel_rfl) (fun _ _ _ h => h) hst (EffB.run rfl rfl (fun wd hS => ?_)) (.inl (by kernel_rfl)) ?_
  · exact wp_load_row 23 _ rfl (w.heap.size) rfl 23 #[.int .i64 p.mn, .int .i64 p.mx, .int .i64 p.tg, .int .i64 p.tl, .int .i64 p.wi, .int .i64 p.ho] (0, 0) _ (hS.1.heap 0 rfl) Tryz.underlying23 rfl (by kernel_rfl) ⟨rfl, Below.refl _ _⟩
  simp only [act_norm]
  refine wpAnyE_take 2 rfl (by kernel_rfl) (by kernel_rfl) (by kernel_rfl) (fun _ _ _ h => h) hst (EffB.pure rfl (fun _ => rfl)) (.inr (EffB.pure rfl (fun _ => rfl))) ?_
  simp only [act_norm]
  refine wpAnyE_take 3 rfl (by kernel_rfl) (by kernel_rfl) (by kernel_rfl) (fun _ _ _ h => h) hst (EffB.pure rfl (fun _ => rfl)) (.inr (EffB.pure rfl (fun _ => rfl))) ?_
  simp only [act_norm]
  refine wpAnyE_take 4 rfl (by kernel_rfl) (by kernel_rfl) (by kernel_rfl) (fun _ _ _ h => h) hst (EffB.pure rfl (fun _ => rfl)) (.inr (EffB.pure rfl (fun _ => rfl))) ?_
  simp only [act_norm]
  refine wpAnyE_one 5 rfl (by kernel_rfl) rfl (fun wd hS => ?_)
  go_wp2_with fail
  (with_reducible refine (F1.out _ hS.2).mono ?_)
  rintro e w5 ⟨q1, d1, rfl, hA, hb5⟩
  have hlo : w.heap.size + 2 ≤ wd.heap.size := by have := hS.1.lt (i := 1) rfl; omega
  have hst2 := stab_and hst (stab_adf (A := w.heap.size + 2) (q := q1) (l := r))
  refine ⟨_, ⟨hst _ _ hS hb5, hA.wide hlo⟩, hst2, (by first | exact fun _ h => h.1 | exact .inr fun _ h => h.1), ?_⟩
  try simp only [act_norm]
  clear hA hb5 hS hst M1
  have hst := hst2
  refine wpAnyE_take 6 (v := .agg #[.slice q1 m d1, .int .i64 C, .int .i64 T, .int .i64 a, .int .i64 b, .int .i64 x, .int .i64 y]) rfl (by kernel_rfl) (by kernel_rfl) (by kernel_rfl) (fun _ _ _ h => h) hst (EffB.run rfl rfl (fun wd hS => ?_)) (.inl (by kernel_rfl)) ?_
  · (go_wp2_with fail; (with_reducible refine (F2.out q1 d1 wd hS.2).mono ?_); rintro e w'' ⟨rfl, hb⟩; exact ⟨rfl, hb⟩)
  simp only [act_norm]
  refine wpAnyE_one 7 rfl (by kernel_rfl) rfl (fun wd hS => ?_)
  refine wp_store_row 34 _ _ rfl (w.heap.size + 1) #[.slice q1 m d1, .int .i64 C, .int .i64 T, .int .i64 a, .int .i64 b, .int .i64 x, .int .i64 y] rfl rfl 34 #[.slice none 0 0, .int .i64 0, .int .i64 0, .int .i64 0, .int .i64 0, .int .i64 0, .int .i64 0] (hS.1.1.heap 1 rfl) refResSize rfl (by simp [Value.oneCell']) ?_
  have hst4 := stab_and (stab_mem (w := w) (bs := [(w.heap.size, .cells #[.int .i64 p.mn, .int .i64 p.mx, .int .i64 p.tg, .int .i64 p.tl, .int .i64 p.wi, .int .i64 p.ho] 23), (w.heap.size + 1, .cells #[.slice q1 m d1, .int .i64 C, .int .i64 T, .int .i64 a, .int .i64 b, .int .i64 x, .int .i64 y] 34)])) (stab_adf (A := w.heap.size + 2) (q := q1) (l := r))
  refine ⟨_, ⟨hS.1.1.setRow 1 rfl, hS.2.setRow (w.heap.size + 1) (by omega) _⟩, hst4, .inl (by decide), ?_⟩
  try simp only [act_norm]
  clear hS hst hst2
  have hst := hst4
  refine wpAnyE_take 8 rfl (by kernel_rfl) (by kernel_rfl) (by kernel_rfl) (fun _ _ _ h => h) hst (EffB.pure rfl (fun _ => rfl)) (.inr (EffB.pure rfl (fun _ => rfl))) ?_
  simp only [act_norm]
  refine wpAnyE_done (by kernel_rfl) (fun wd hS => ?_) _
  have MF := Lib.hid hS.1
  have AF := Lib.hid hS.2
  clear hS hst hst4
  go_wp2
  exact bodyPost_ret (results_row_tmp rfl _ _ (w.heap.size + 1) 34 #[.slice q1 m d1, .int .i64 C, .int .i64 T, .int .i64 a, .int .i64 b, .int .i64 x, .int .i64 y] (0, 0) _ 7 _ rfl rfl (MF.out.heap 1 rfl) Tryz.underlying34 rfl refResSize rfl) rfl ⟨q1, d1, rfl, AF.out.wide (by omega), MF.out.below⟩
end Go.Proofs.YtildjnibdappnaaGreat
