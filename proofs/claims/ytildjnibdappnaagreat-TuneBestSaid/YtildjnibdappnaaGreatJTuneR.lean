/- Layer 45: judged decisions that come of samples, by the reference; whether nothing is short. -/
import Derived.Test.YtildjnibdappnaaGreatJTriR
namespace Go.Proofs.YtildjnibdappnaaGreat
open Go.ChangeShapes Go.WideShapes Go.ChangeAt Go.RowKit

theorem refResSize : (Tryz.prog.info? 34).map (·.size) = some 7 := by kernel_rfl

set_option maxHeartbeats 1000000 in
set_option maxRecDepth 100000 in
theorem run45_pol (p : Pol) (hok : p.ok = false) (q : Option Addr) (n cap : Nat) (sa ro : Int) (w : World) :
    Calls Tryz.prog 18 #[.agg #[.int .i64 p.mn, .int .i64 p.mx, .int .i64 p.tg, .int .i64 p.tl, .int .i64 p.wi, .int .i64 p.ho], .slice q n cap, .int .i64 sa, .int .i64 ro] w fun e w' => e = .returned (.tuple #[.agg #[.slice none 0 0, .int .i64 0, .int .i64 0, .int .i64 0, .int .i64 0, .int .i64 0, .int .i64 0], .int .i64 7]) ∧ Below w.heap.size w w' := by
  have HC := Lib.hid (fun W => ref_polRight p W)
  rw [hok] at HC
  have M0 : Hid (Mem w ((w.alloc (.cells #[.int .i64 p.mn, .int .i64 p.mx, .int .i64 p.tg, .int .i64 p.tl, .int .i64 p.wi, .int .i64 p.ho] 23)).alloc (.cells #[.slice none 0 0, .int .i64 0, .int .i64 0, .int .i64 0, .int .i64 0, .int .i64 0, .int .i64 0] 34)) [(w.heap.size, .cells #[.int .i64 p.mn, .int .i64 p.mx, .int .i64 p.tg, .int .i64 p.tl, .int .i64 p.wi, .int .i64 p.ho] 23), (w.heap.size + 1, .cells #[.slice none 0 0, .int .i64 0, .int .i64 0, .int .i64 0, .int .i64 0, .int .i64 0, .int .i64 0] 34)]) := ((Mem.start w).alloc _).allocAs (w.heap.size + 1) _ (by simp)
  clear hok
  go_enter Tryz.func18, Tryz.ntmps18
  have K0 := Lib.hid (M0.out.heap 0 rfl)
  go_wp2_with ((with_reducible refine wpList_load_rowAs rfl 23 _ rfl (w.heap.size) ?_ 23 #[.int .i64 p.mn, .int .i64 p.mx, .int .i64 p.tg, .int .i64 p.tl, .int .i64 p.wi, .int .i64 p.ho] (0, 0) _ 6 ?_ Tryz.underlying23 rfl (by kernel_rfl) ?_ ?_); exact rfl; exact K0.out; exact rfl)
  (with_reducible refine (HC.out _).mono ?_)
  rintro e w1 ⟨rfl, hb1⟩
  have M1 := Lib.hid (M0.out.call hb1)
  have K1 := Lib.hid (M1.out.heap 1 rfl)
  clear hb1 M0 K0
  go_wp2_with ((with_reducible refine wpList_store_rowAs rfl 34 _ _ rfl ((w.heap.size + 1)) #[.slice none 0 0, .int .i64 0, .int .i64 0, .int .i64 0, .int .i64 0, .int .i64 0, .int .i64 0] ?_ ?_ 34 #[.slice none 0 0, .int .i64 0, .int .i64 0, .int .i64 0, .int .i64 0, .int .i64 0, .int .i64 0] 7 ?_ (by kernel_rfl) rfl rfl (by simp [Value.oneCell']) ?_); exact rfl; exact rfl; exact K1.out)
  have MF := Lib.hid (M1.out.setRow 1 (cs := #[.slice none 0 0, .int .i64 0, .int .i64 0, .int .i64 0, .int .i64 0, .int .i64 0, .int .i64 0]) rfl)
  exact bodyPost_ret (results_row_tmp rfl _ _ (w.heap.size + 1) 34 #[.slice none 0 0, .int .i64 0, .int .i64 0, .int .i64 0, .int .i64 0, .int .i64 0, .int .i64 0] (0, 0) _ 7 _ rfl rfl (MF.out.heap 1 rfl) Tryz.underlying34 rfl refResSize rfl) rfl ⟨rfl, MF.out.below⟩

set_option maxHeartbeats 2000000 in
set_option maxRecDepth 100000 in
theorem run45_arg (p : Pol) (hok : p.ok = true) (q : Option Addr) (n cap : Nat) (sa ro : Int) (hbad : sa < 1 ∨ 256 < sa ∨ ro < 1 ∨ 64 < ro) (w : World) :
    Calls Tryz.prog 18 #[.agg #[.int .i64 p.mn, .int .i64 p.mx, .int .i64 p.tg, .int .i64 p.tl, .int .i64 p.wi, .int .i64 p.ho], .slice q n cap, .int .i64 sa, .int .i64 ro] w fun e w' => e = .returned (.tuple #[.agg #[.slice none 0 0, .int .i64 0, .int .i64 0, .int .i64 0, .int .i64 0, .int .i64 0, .int .i64 0], .int .i64 1]) ∧ Below w.heap.size w w' := by
  have HC := Lib.hid (fun W => ref_polRight p W)
  rw [hok] at HC
  have M0 : Hid (Mem w ((w.alloc (.cells #[.int .i64 p.mn, .int .i64 p.mx, .int .i64 p.tg, .int .i64 p.tl, .int .i64 p.wi, .int .i64 p.ho] 23)).alloc (.cells #[.slice none 0 0, .int .i64 0, .int .i64 0, .int .i64 0, .int .i64 0, .int .i64 0, .int .i64 0] 34)) [(w.heap.size, .cells #[.int .i64 p.mn, .int .i64 p.mx, .int .i64 p.tg, .int .i64 p.tl, .int .i64 p.wi, .int .i64 p.ho] 23), (w.heap.size + 1, .cells #[.slice none 0 0, .int .i64 0, .int .i64 0, .int .i64 0, .int .i64 0, .int .i64 0, .int .i64 0] 34)]) := ((Mem.start w).alloc _).allocAs (w.heap.size + 1) _ (by simp)
  clear hok
  by_cases h0 : sa < 1
  · have d0 : decide (sa < 1) = true := decide_eq_true h0
    clear hbad
    go_enter Tryz.func18, Tryz.ntmps18
    have K0 := Lib.hid (M0.out.heap 0 rfl)
    go_wp2_with ((with_reducible refine wpList_load_rowAs rfl 23 _ rfl (w.heap.size) ?_ 23 #[.int .i64 p.mn, .int .i64 p.mx, .int .i64 p.tg, .int .i64 p.tl, .int .i64 p.wi, .int .i64 p.ho] (0, 0) _ 6 ?_ Tryz.underlying23 rfl (by kernel_rfl) ?_ ?_); exact rfl; exact K0.out; exact rfl)
    (with_reducible refine (HC.out _).mono ?_)
    rintro e w1 ⟨rfl, hb1⟩
    have M1 := Lib.hid (M0.out.call hb1)
    have K1 := Lib.hid (M1.out.heap 1 rfl)
    clear hb1 M0 K0
    go_wp2_with ((with_reducible refine wpList_store_rowAs rfl 34 _ _ rfl ((w.heap.size + 1)) #[.slice none 0 0, .int .i64 0, .int .i64 0, .int .i64 0, .int .i64 0, .int .i64 0, .int .i64 0] ?_ ?_ 34 #[.slice none 0 0, .int .i64 0, .int .i64 0, .int .i64 0, .int .i64 0, .int .i64 0, .int .i64 0] 7 ?_ (by kernel_rfl) rfl rfl (by simp [Value.oneCell']) ?_); exact rfl; exact rfl; exact K1.out)
    have MF := Lib.hid (M1.out.setRow 1 (cs := #[.slice none 0 0, .int .i64 0, .int .i64 0, .int .i64 0, .int .i64 0, .int .i64 0, .int .i64 0]) rfl)
    exact bodyPost_ret (results_row_tmp rfl _ _ (w.heap.size + 1) 34 #[.slice none 0 0, .int .i64 0, .int .i64 0, .int .i64 0, .int .i64 0, .int .i64 0, .int .i64 0] (0, 0) _ 7 _ rfl rfl (MF.out.heap 1 rfl) Tryz.underlying34 rfl refResSize rfl) rfl ⟨rfl, MF.out.below⟩
  have d0 : decide (sa < 1) = false := decide_eq_false h0
  by_cases h1 : 256 < sa
  · have d1 : decide (256 < sa) = true := decide_eq_true h1
    clear hbad
    go_enter Tryz.func18, Tryz.ntmps18
    have K0 := Lib.hid (M0.out.heap 0 rfl)
    go_wp2_with ((with_reducible refine wpList_load_rowAs rfl 23 _ rfl (w.heap.size) ?_ 23 #[.int .i64 p.mn, .int .i64 p.mx, .int .i64 p.tg, .int .i64 p.tl, .int .i64 p.wi, .int .i64 p.ho] (0, 0) _ 6 ?_ Tryz.underlying23 rfl (by kernel_rfl) ?_ ?_); exact rfl; exact K0.out; exact rfl)
    (with_reducible refine (HC.out _).mono ?_)
    rintro e w1 ⟨rfl, hb1⟩
    have M1 := Lib.hid (M0.out.call hb1)
    have K1 := Lib.hid (M1.out.heap 1 rfl)
    clear hb1 M0 K0
    go_wp2_with ((with_reducible refine wpList_store_rowAs rfl 34 _ _ rfl ((w.heap.size + 1)) #[.slice none 0 0, .int .i64 0, .int .i64 0, .int .i64 0, .int .i64 0, .int .i64 0, .int .i64 0] ?_ ?_ 34 #[.slice none 0 0, .int .i64 0, .int .i64 0, .int .i64 0, .int .i64 0, .int .i64 0, .int .i64 0] 7 ?_ (by kernel_rfl) rfl rfl (by simp [Value.oneCell']) ?_); exact rfl; exact rfl; exact K1.out)
    have MF := Lib.hid (M1.out.setRow 1 (cs := #[.slice none 0 0, .int .i64 0, .int .i64 0, .int .i64 0, .int .i64 0, .int .i64 0, .int .i64 0]) rfl)
    exact bodyPost_ret (results_row_tmp rfl _ _ (w.heap.size + 1) 34 #[.slice none 0 0, .int .i64 0, .int .i64 0, .int .i64 0, .int .i64 0, .int .i64 0, .int .i64 0] (0, 0) _ 7 _ rfl rfl (MF.out.heap 1 rfl) Tryz.underlying34 rfl refResSize rfl) rfl ⟨rfl, MF.out.below⟩
  have d1 : decide (256 < sa) = false := decide_eq_false h1
  by_cases h2 : ro < 1
  · have d2 : decide (ro < 1) = true := decide_eq_true h2
    clear hbad
    go_enter Tryz.func18, Tryz.ntmps18
    have K0 := Lib.hid (M0.out.heap 0 rfl)
    go_wp2_with ((with_reducible refine wpList_load_rowAs rfl 23 _ rfl (w.heap.size) ?_ 23 #[.int .i64 p.mn, .int .i64 p.mx, .int .i64 p.tg, .int .i64 p.tl, .int .i64 p.wi, .int .i64 p.ho] (0, 0) _ 6 ?_ Tryz.underlying23 rfl (by kernel_rfl) ?_ ?_); exact rfl; exact K0.out; exact rfl)
    (with_reducible refine (HC.out _).mono ?_)
    rintro e w1 ⟨rfl, hb1⟩
    have M1 := Lib.hid (M0.out.call hb1)
    have K1 := Lib.hid (M1.out.heap 1 rfl)
    clear hb1 M0 K0
    go_wp2_with ((with_reducible refine wpList_store_rowAs rfl 34 _ _ rfl ((w.heap.size + 1)) #[.slice none 0 0, .int .i64 0, .int .i64 0, .int .i64 0, .int .i64 0, .int .i64 0, .int .i64 0] ?_ ?_ 34 #[.slice none 0 0, .int .i64 0, .int .i64 0, .int .i64 0, .int .i64 0, .int .i64 0, .int .i64 0] 7 ?_ (by kernel_rfl) rfl rfl (by simp [Value.oneCell']) ?_); exact rfl; exact rfl; exact K1.out)
    have MF := Lib.hid (M1.out.setRow 1 (cs := #[.slice none 0 0, .int .i64 0, .int .i64 0, .int .i64 0, .int .i64 0, .int .i64 0, .int .i64 0]) rfl)
    exact bodyPost_ret (results_row_tmp rfl _ _ (w.heap.size + 1) 34 #[.slice none 0 0, .int .i64 0, .int .i64 0, .int .i64 0, .int .i64 0, .int .i64 0, .int .i64 0] (0, 0) _ 7 _ rfl rfl (MF.out.heap 1 rfl) Tryz.underlying34 rfl refResSize rfl) rfl ⟨rfl, MF.out.below⟩
  have d2 : decide (ro < 1) = false := decide_eq_false h2
  have d3 : decide (64 < ro) = true := decide_eq_true (by omega)
  clear hbad
  go_enter Tryz.func18, Tryz.ntmps18
  have K0 := Lib.hid (M0.out.heap 0 rfl)
  go_wp2_with ((with_reducible refine wpList_load_rowAs rfl 23 _ rfl (w.heap.size) ?_ 23 #[.int .i64 p.mn, .int .i64 p.mx, .int .i64 p.tg, .int .i64 p.tl, .int .i64 p.wi, .int .i64 p.ho] (0, 0) _ 6 ?_ Tryz.underlying23 rfl (by kernel_rfl) ?_ ?_); exact rfl; exact K0.out; exact rfl)
  (with_reducible refine (HC.out _).mono ?_)
  rintro e w1 ⟨rfl, hb1⟩
  have M1 := Lib.hid (M0.out.call hb1)
  have K1 := Lib.hid (M1.out.heap 1 rfl)
  clear hb1 M0 K0
  go_wp2_with ((with_reducible refine wpList_store_rowAs rfl 34 _ _ rfl ((w.heap.size + 1)) #[.slice none 0 0, .int .i64 0, .int .i64 0, .int .i64 0, .int .i64 0, .int .i64 0, .int .i64 0] ?_ ?_ 34 #[.slice none 0 0, .int .i64 0, .int .i64 0, .int .i64 0, .int .i64 0, .int .i64 0, .int .i64 0] 7 ?_ (by kernel_rfl) rfl rfl (by simp [Value.oneCell']) ?_); exact rfl; exact rfl; exact K1.out)
  have MF := Lib.hid (M1.out.setRow 1 (cs := #[.slice none 0 0, .int .i64 0, .int .i64 0, .int .i64 0, .int .i64 0, .int .i64 0, .int .i64 0]) rfl)
  exact bodyPost_ret (results_row_tmp rfl _ _ (w.heap.size + 1) 34 #[.slice none 0 0, .int .i64 0, .int .i64 0, .int .i64 0, .int .i64 0, .int .i64 0, .int .i64 0] (0, 0) _ 7 _ rfl rfl (MF.out.heap 1 rfl) Tryz.underlying34 rfl refResSize rfl) rfl ⟨rfl, MF.out.below⟩

set_option maxHeartbeats 2000000 in
set_option maxRecDepth 100000 in
theorem run45 (p : Pol) (hp : p.In) (hok : p.ok = true) (q : Option Addr) (cap : Nat) (l : List Samp) (hl : ∀ a ∈ l, a.In) (hb : l.length ≤ 1000) (sa ro : Int) (h0 : ¬ sa < 1) (h1 : ¬ 256 < sa) (h2 : ¬ ro < 1) (h3 : ¬ 64 < ro) (w : World) (hs : Samps w q l) :
    Calls Tryz.prog 18 #[.agg #[.int .i64 p.mn, .int .i64 p.mx, .int .i64 p.tg, .int .i64 p.tl, .int .i64 p.wi, .int .i64 p.ho], .slice q l.length cap, .int .i64 sa, .int .i64 ro] w fun e w' => ∃ (u : Option Addr) (d : Nat), e = .returned (.tuple #[.agg (Run.row p (.slice u (Fol.of p l sa ro).length d) (Fol.of p l sa ro)), .int .i64 0]) ∧ Below w.heap.size w w' := by
  have HC := Lib.hid (fun W => ref_polRight p W)
  rw [hok] at HC
  have M0 : Hid (Mem w ((w.alloc (.cells #[.int .i64 p.mn, .int .i64 p.mx, .int .i64 p.tg, .int .i64 p.tl, .int .i64 p.wi, .int .i64 p.ho] 23)).alloc (.cells #[.slice none 0 0, .int .i64 0, .int .i64 0, .int .i64 0, .int .i64 0, .int .i64 0, .int .i64 0] 34)) [(w.heap.size, .cells #[.int .i64 p.mn, .int .i64 p.mx, .int .i64 p.tg, .int .i64 p.tl, .int .i64 p.wi, .int .i64 p.ho] 23), (w.heap.size + 1, .cells #[.slice none 0 0, .int .i64 0, .int .i64 0, .int .i64 0, .int .i64 0, .int .i64 0, .int .i64 0] 34)]) := ((Mem.start w).alloc _).allocAs (w.heap.size + 1) _ (by simp)
  have f1 := fun W : World => fun h : Samps W q l => refFollow_of p hp q cap l hl hb sa ro W h
  have hall := Fol.all p hp l hl sa ro
  have hlen := Fol.length_le p l sa ro
  obtain ⟨r, er⟩ : ∃ r, r = Fol.of p l sa ro := ⟨_, rfl⟩
  simp only [← er] at f1 hall hlen ⊢
  unfold Run.row
  obtain ⟨m, em⟩ : ∃ m, m = r.length := ⟨_, rfl⟩
  have f2 := fun (u : Option Addr) (d : Nat) (W : World) (h : Advs W u r) => ref44_judge p hp u m d r em.symm (fun a ha => (hall a ha).1) (by omega) W h
  rw [← em] at hlen
  simp only [← em] at f1 ⊢
  unfold Tri.row at f2 ⊢
  obtain ⟨C, eC⟩ : ∃ x : Int, x = (Adv.changes (Adv.rep r) m : Nat) := ⟨_, rfl⟩
  obtain ⟨T, eT⟩ : ∃ x : Int, x = ((Adv.turns (Adv.rep r) m).1 : Nat) := ⟨_, rfl⟩
  obtain ⟨a, ea⟩ : ∃ x, x = Tri.lo (Adv.rep r) m := ⟨_, rfl⟩
  obtain ⟨b, eb⟩ : ∃ x, x = Tri.hi (Adv.rep r) m := ⟨_, rfl⟩
  obtain ⟨x, ex⟩ : ∃ x, x = Tri.sp (Tri.left p.tg r) m := ⟨_, rfl⟩
  obtain ⟨y, ey⟩ : ∃ x, x = Tri.sh (Tri.left p.tg r) m := ⟨_, rfl⟩
  simp only [← eC, ← eT, ← ea, ← eb, ← ex, ← ey] at f2 ⊢
  have F1 := Lib.hid f1
  have F2 := Lib.hid f2
  have HS := Lib.hid hs
  have d0 : decide (sa < 1) = false := decide_eq_false h0
  have d1 : decide (256 < sa) = false := decide_eq_false h1
  have d2 : decide (ro < 1) = false := decide_eq_false h2
  have d3 : decide (64 < ro) = false := decide_eq_false h3
  obtain ⟨n, en⟩ : ∃ n, n = l.length := ⟨_, rfl⟩
  simp only [← en] at F1 ⊢
  clear hok f1 f2 eC eT ea eb ex ey em er hall hlen hs hl hp hb h0 h1 h2 h3 en
  go_enter Tryz.func18, Tryz.ntmps18
  have K0 := Lib.hid (M0.out.heap 0 rfl)
  go_wp2_with ((with_reducible refine wpList_load_rowAs rfl 23 _ rfl (w.heap.size) ?_ 23 #[.int .i64 p.mn, .int .i64 p.mx, .int .i64 p.tg, .int .i64 p.tl, .int .i64 p.wi, .int .i64 p.ho] (0, 0) _ 6 ?_ Tryz.underlying23 rfl (by kernel_rfl) ?_ ?_); exact rfl; exact K0.out; exact rfl)
  (with_reducible refine (HC.out _).mono ?_)
  rintro e w1 ⟨rfl, hb1⟩
  have M1 := Lib.hid (M0.out.call hb1)
  clear hb1 M0 K0
  go_wp2_with fail
  have hst := stab_and (stab_mem (w := w) (bs := [(w.heap.size, .cells #[.int .i64 p.mn, .int .i64 p.mx, .int .i64 p.tg, .int .i64 p.tl, .int .i64 p.wi, .int .i64 p.ho] 23), (w.heap.size + 1, .cells #[.slice none 0 0, .int .i64 0, .int .i64 0, .int .i64 0, .int .i64 0, .int .i64 0, .int .i64 0] 34)])) (stab_samps (q := q) (l := l))
  refine wp_region_E mixed [7] hst ⟨M1.out.drewN 1, HS.out.below (M1.out.drewN 1).below⟩ ?_
  refine wpAnyE_take 0 (v := .agg #[.int .i64 p.mn, .int .i64 p.mx, .int .i64 p.tg, .int .i64 p.tl, .int .i64 p.wi, .int .i64 p.ho]) rfl (by kernel_rfl) (by kernel_rfl) (by kernel_rfl) (fun _ _ _ h => h) hst (EffB.run rfl rfl (fun wd hS => ?_)) (.inl (by kernel_rfl)) ?_
  · exact wp_load_row 23 _ rfl (w.heap.size) rfl 23 #[.int .i64 p.mn, .int .i64 p.mx, .int .i64 p.tg, .int .i64 p.tl, .int .i64 p.wi, .int .i64 p.ho] (0, 0) _ (hS.1.heap 0 rfl) Tryz.underlying23 rfl (by kernel_rfl) ⟨rfl, Below.refl _ _⟩
  simp only [act_norm]
  refine wpAnyE_take 1 (v := .agg #[.int .i64 p.mn, .int .i64 p.mx, .int .i64 p.tg, .int .i64 p.tl, .int .i64 p.wi, .int .i64 p.ho]) rfl (by kernel_rfl) (by kernel_rfl) (by kernel_rfl) (fun _ _ _ h => h) hst (EffB.run rfl rfl (fun wd hS => ?_)) (.inl (by kernel_rfl)) ?_
  · exact wp_load_row 23 _ rfl (w.heap.size) rfl 23 #[.int .i64 p.mn, .int .i64 p.mx, .int .i64 p.tg, .int .i64 p.tl, .int .i64 p.wi, .int .i64 p.ho] (0, 0) _ (hS.1.heap 0 rfl) Tryz.underlying23 rfl (by kernel_rfl) ⟨rfl, Below.refl _ _⟩
  simp only [act_norm]
  refine wpAnyE_take 2 rfl (by kernel_rfl) (by kernel_rfl) (by kernel_rfl) (fun _ _ _ h => h) hst (EffB.pure rfl (fun _ => rfl)) (.inr (EffB.pure rfl (fun _ => rfl))) ?_
  simp only [act_norm]
  refine wpAnyE_take 3 rfl (by kernel_rfl) (by kernel_rfl) (by kernel_rfl) (fun _ _ _ h => h) hst (EffB.pure rfl (fun _ => rfl)) (.inr (EffB.pure rfl (fun _ => rfl))) ?_
  simp only [act_norm]
  refine wpAnyE_take 4 rfl (by kernel_rfl) (by kernel_rfl) (by kernel_rfl) (fun _ _ _ h => h) hst (EffB.pure rfl (fun _ => rfl)) (.inr (EffB.pure rfl (fun _ => rfl))) ?_
  simp only [act_norm]
  refine wpAnyE_one 5 rfl (by kernel_rfl) rfl (fun wd hS => ?_)
  go_wp2_with fail
  (with_reducible refine (F1.out _ hS.2).mono ?_)
  rintro e w5 ⟨q1, d1, rfl, hA, hb5⟩
  have hst2 := stab_and hst (stab_advs (q := q1) (l := r))
  refine ⟨_, ⟨hst _ _ hS hb5, hA⟩, hst2, (by first | exact fun _ h => h.1 | exact .inr fun _ h => h.1), ?_⟩
  try simp only [act_norm]
  clear hA hb5 hS hst M1
  have hst := hst2
  refine wpAnyE_take 6 (v := .agg #[.slice q1 m d1, .int .i64 C, .int .i64 T, .int .i64 a, .int .i64 b, .int .i64 x, .int .i64 y]) rfl (by kernel_rfl) (by kernel_rfl) (by kernel_rfl) (fun _ _ _ h => h) hst (EffB.run rfl rfl (fun wd hS => ?_)) (.inl (by kernel_rfl)) ?_
  · (go_wp2_with fail; (with_reducible refine (F2.out q1 d1 wd hS.2).mono ?_); rintro e w'' ⟨rfl, hb⟩; exact ⟨rfl, hb⟩)
  simp only [act_norm]
  refine wpAnyE_one 7 rfl (by kernel_rfl) rfl (fun wd hS => ?_)
  refine wp_store_row 34 _ _ rfl (w.heap.size + 1) #[.slice q1 m d1, .int .i64 C, .int .i64 T, .int .i64 a, .int .i64 b, .int .i64 x, .int .i64 y] rfl rfl 34 #[.slice none 0 0, .int .i64 0, .int .i64 0, .int .i64 0, .int .i64 0, .int .i64 0, .int .i64 0] (hS.1.1.heap 1 rfl) refResSize rfl (by simp [Value.oneCell']) ?_
  have hst4 := stab_mem (w := w) (bs := [(w.heap.size, .cells #[.int .i64 p.mn, .int .i64 p.mx, .int .i64 p.tg, .int .i64 p.tl, .int .i64 p.wi, .int .i64 p.ho] 23), (w.heap.size + 1, .cells #[.slice q1 m d1, .int .i64 C, .int .i64 T, .int .i64 a, .int .i64 b, .int .i64 x, .int .i64 y] 34)])
  refine ⟨_, hS.1.1.setRow 1 rfl, hst4, .inl (by decide), ?_⟩
  try simp only [act_norm]
  clear hS hst hst2
  have hst := hst4
  refine wpAnyE_take 8 rfl (by kernel_rfl) (by kernel_rfl) (by kernel_rfl) (fun _ _ _ h => h) hst (EffB.pure rfl (fun _ => rfl)) (.inr (EffB.pure rfl (fun _ => rfl))) ?_
  simp only [act_norm]
  refine wpAnyE_done (by kernel_rfl) (fun wd hS => ?_) _
  have MF := Lib.hid hS
  clear hS hst hst4
  go_wp2
  exact bodyPost_ret (results_row_tmp rfl _ _ (w.heap.size + 1) 34 #[.slice q1 m d1, .int .i64 C, .int .i64 T, .int .i64 a, .int .i64 b, .int .i64 x, .int .i64 y] (0, 0) _ 7 _ rfl rfl (MF.out.heap 1 rfl) Tryz.underlying34 rfl refResSize rfl) rfl ⟨q1, d1, rfl, MF.out.below⟩

/-- Whether all is well and nothing is short. -/
def Chp.good (p : Pol) (l : List Samp) (sa ro : Int) : Bool := p.ok && !(decide (sa < 1 ∨ 256 < sa ∨ ro < 1 ∨ 64 < ro)) && decide (Tri.sh (Tri.left p.tg (Fol.of p l sa ro)) (Fol.of p l sa ro).length = 0)
theorem Chp.good_pol {p : Pol} (h : p.ok = false) (l : List Samp) (sa ro : Int) : Chp.good p l sa ro = false := by unfold Chp.good; rw [h]; rfl
theorem Chp.good_arg (p : Pol) (l : List Samp) {sa ro : Int} (h : sa < 1 ∨ 256 < sa ∨ ro < 1 ∨ 64 < ro) : Chp.good p l sa ro = false := by unfold Chp.good; rw [decide_eq_true h]; simp
theorem Chp.good_some {p : Pol} (h : p.ok = true) (l : List Samp) {sa ro : Int} (h2 : ¬ (sa < 1 ∨ 256 < sa ∨ ro < 1 ∨ 64 < ro)) : Chp.good p l sa ro = decide (Tri.sh (Tri.left p.tg (Fol.of p l sa ro)) (Fol.of p l sa ro).length = 0) := by unfold Chp.good; rw [h, decide_eq_false h2]; simp

theorem run_any (p : Pol) (hp : p.In) (q : Option Addr) (cap : Nat) (l : List Samp) (hl : ∀ a ∈ l, a.In) (hb : l.length ≤ 1000) (sa ro : Int) (w : World) (hs : Samps w q l) :
    Calls Tryz.prog 7 #[.agg #[.int .i64 p.mn, .int .i64 p.mx, .int .i64 p.tg, .int .i64 p.tl, .int .i64 p.wi, .int .i64 p.ho], .slice q l.length cap, .int .i64 sa, .int .i64 ro] w fun e w' => ∃ (u : Option Addr) (m d : Nat) (C T a b x y c : Int), e = .returned (.tuple #[.agg #[.slice u m d, .int .i64 C, .int .i64 T, .int .i64 a, .int .i64 b, .int .i64 x, .int .i64 y], .int .i64 c]) ∧ (decide (c = 0) && decide (y = 0)) = Chp.good p l sa ro ∧ Below w.heap.size w w' := by
  cases hok : p.ok with
  | false => exact (trial_run_pol p hok q l.length cap sa ro w).mono fun e w' ⟨a, b⟩ => ⟨none, 0, 0, 0, 0, 0, 0, 0, 0, 7, a, by rw [Chp.good_pol hok]; rfl, b⟩
  | true =>
    by_cases hbad : sa < 1 ∨ 256 < sa ∨ ro < 1 ∨ 64 < ro
    · exact (trial_run_arg p hok q l.length cap sa ro hbad w).mono fun e w' ⟨a, b⟩ => ⟨none, 0, 0, 0, 0, 0, 0, 0, 0, 1, a, by rw [Chp.good_arg p l hbad]; rfl, b⟩
    · exact (trial_run p hp hok q cap l hl hb sa ro (by omega) (by omega) (by omega) (by omega) w hs).mono fun e w' ⟨u, d, a, _, b⟩ => ⟨u, _, d, _, _, _, _, _, _, 0, a, by rw [Chp.good_some hok l hbad]; rfl, b⟩
theorem run45_any (p : Pol) (hp : p.In) (q : Option Addr) (cap : Nat) (l : List Samp) (hl : ∀ a ∈ l, a.In) (hb : l.length ≤ 1000) (sa ro : Int) (w : World) (hs : Samps w q l) :
    Calls Tryz.prog 18 #[.agg #[.int .i64 p.mn, .int .i64 p.mx, .int .i64 p.tg, .int .i64 p.tl, .int .i64 p.wi, .int .i64 p.ho], .slice q l.length cap, .int .i64 sa, .int .i64 ro] w fun e w' => ∃ (u : Option Addr) (m d : Nat) (C T a b x y c : Int), e = .returned (.tuple #[.agg #[.slice u m d, .int .i64 C, .int .i64 T, .int .i64 a, .int .i64 b, .int .i64 x, .int .i64 y], .int .i64 c]) ∧ (decide (c = 0) && decide (y = 0)) = Chp.good p l sa ro ∧ Below w.heap.size w w' := by
  cases hok : p.ok with
  | false => exact (run45_pol p hok q l.length cap sa ro w).mono fun e w' ⟨a, b⟩ => ⟨none, 0, 0, 0, 0, 0, 0, 0, 0, 7, a, by rw [Chp.good_pol hok]; rfl, b⟩
  | true =>
    by_cases hbad : sa < 1 ∨ 256 < sa ∨ ro < 1 ∨ 64 < ro
    · exact (run45_arg p hok q l.length cap sa ro hbad w).mono fun e w' ⟨a, b⟩ => ⟨none, 0, 0, 0, 0, 0, 0, 0, 0, 1, a, by rw [Chp.good_arg p l hbad]; rfl, b⟩
    · exact (run45 p hp hok q cap l hl hb sa ro (by omega) (by omega) (by omega) (by omega) w hs).mono fun e w' ⟨u, d, a, b⟩ => ⟨u, _, d, _, _, _, _, _, _, 0, a, by rw [Chp.good_some hok l hbad]; rfl, b⟩
end Go.Proofs.YtildjnibdappnaaGreat
