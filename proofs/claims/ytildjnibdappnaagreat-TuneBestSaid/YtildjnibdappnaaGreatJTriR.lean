/- Layer 44: the judged decisions that come of samples. -/
import Derived.Test.YtildjnibdappnaaGreatJTri4
import Derived.Test.YtildjnibdappnaaGreatJFol3
import Derived.Test.YtildjnibdappnaaGreatJLaws16b
import Derived.Test.YtildjnibdappnaaGreatJLaws16d
namespace Go.Proofs.YtildjnibdappnaaGreat
open Go.ChangeShapes Go.WideShapes Go.ChangeAt Go.RowKit

theorem FS.out_all (p : Pol) (hp : p.In) (sa ro : Nat) (h1 : 1 ≤ sa) (h2 : 1 ≤ ro) (l : List Samp) (hl : ∀ a ∈ l, a.In) : ∀ k, k ≤ l.length → ∀ a ∈ (FS.at p sa ro l k).out, a.In ∧ p.mn ≤ a.repl ∧ a.repl ≤ p.mx
  | 0, _ => by simp [FS.at, FS.zero]
  | k + 1, hk => by
    have ih := FS.out_all p hp sa ro h1 h2 l hl k (by omega)
    obtain ⟨_, _, g3, _, _, _⟩ := FS.good p hp sa ro h1 h2 l hl k (by omega)
    rw [FS.at_next p sa ro l k (by omega)]
    have hx : (l[k]?.getD default).In := by rw [List.getElem?_eq_getElem (by omega)]; exact hl _ (List.getElem_mem _)
    generalize l[k]?.getD default = x at hx
    generalize FS.at p sa ro l k = f at ih g3
    unfold FS.step
    split
    · exact ih
    · split
      · rename_i he
        have q3 := Ser.put_In g3 sa x hx
        intro a ha
        rcases List.mem_append.1 ha with h | h
        · exact ih a h
        · obtain rfl : a = _ := List.mem_singleton.1 h
          exact ⟨Dec.of_In p hp (Dec.err_zero he).1 _ (Ser.put_pos f.sam h1 x) q3 f.past, Dec.of_in he⟩
      · exact ih
theorem Fol.all (p : Pol) (hp : p.In) (l : List Samp) (hl : ∀ a ∈ l, a.In) (sa ro : Int) : ∀ a ∈ Fol.of p l sa ro, a.In ∧ p.mn ≤ a.repl ∧ a.repl ≤ p.mx := by
  unfold Fol.of
  split
  · simp
  · exact FS.out_all p hp _ _ (by omega) (by omega) l hl _ (Nat.le_refl _)
theorem Adv.changes_none {g : Nat → Int} {c : Int} : ∀ n, (∀ i, i < n → g i = c) → Adv.changes g n = 0
  | 0, _ => rfl
  | n + 1, h => by
    have ih := Adv.changes_none n (fun i hi => h i (by omega))
    by_cases h0 : n = 0
    · subst h0; rfl
    · rw [Adv.changes_same (by omega) (by rw [h n (by omega), h (n - 1) (by omega)]), ih]
theorem Fol.steady (p : Pol) (hp : p.In) (l : List Samp) (hl : ∀ a ∈ l, a.In) (sa ro : Int) (h : p.mn = p.mx) : Adv.changes (Adv.rep (Fol.of p l sa ro)) (Fol.of p l sa ro).length = 0 := by
  have hall := Fol.all p hp l hl sa ro
  generalize Fol.of p l sa ro = r at hall
  refine Adv.changes_none (c := p.mn) _ fun i hi => ?_
  show (r[i]?.getD default).repl = _
  rw [List.getElem?_eq_getElem hi]
  have := (hall _ (List.getElem_mem hi)).2
  show (r[i]).repl = _
  omega

theorem follow_own (p : Pol) (hp : p.In) (q : Option Addr) (cap : Nat) (l : List Samp) (hl : ∀ a ∈ l, a.In) (hb : l.length ≤ 1000) (sa ro : Int) (w : World) (hs : Samps w q l) :
    Calls Tryz.prog 22 #[.agg #[.int .i64 p.mn, .int .i64 p.mx, .int .i64 p.tg, .int .i64 p.tl, .int .i64 p.wi, .int .i64 p.ho], .slice q l.length cap, .int .i64 sa, .int .i64 ro] w fun e w' => ∃ (q' : Option Addr) (c : Nat), e = .returned (.slice q' (Fol.of p l sa ro).length c) ∧ (q' = none → (Fol.of p l sa ro).length = 0 ∧ c = 0) ∧ Advs w' q' (Fol.of p l sa ro) ∧ Below w.heap.size w w' := by
  by_cases h : sa < 1 ∨ 256 < sa ∨ ro < 1 ∨ 64 < ro
  · have e0 : Fol.of p l sa ro = [] := if_pos h
    rw [e0]
    exact (follow_none p q l.length cap sa ro h w).mono fun e w' ⟨a, b⟩ => ⟨none, 0, a, fun _ => ⟨rfl, rfl⟩, .inl rfl, b⟩
  · have e0 : Fol.of p l sa ro = (FS.at p sa.toNat ro.toNat l l.length).out := if_neg h
    have es : sa = (sa.toNat : Int) := by omega
    have er : ro = (ro.toNat : Int) := by omega
    rw [e0]
    have := follow_some p hp q cap l hl hb sa.toNat ro.toNat (by omega) (by omega) (by omega) (by omega) w hs
    rw [← es, ← er] at this
    exact this.mono fun e w' ⟨u, a, b, c⟩ => by
      obtain ⟨q', c', rfl, _, h3⟩ := advs_of_owns b
      obtain ⟨q2, c2, e2, _, h2, _⟩ := b.sl
      cases e2
      exact ⟨q', c', a, h2, h3, c⟩

theorem runResSize : (Tryz.prog.info? 28).map (·.size) = some 7 := by kernel_rfl
/-- What is told when all is well. -/
def Run.row (p : Pol) (u : Value) (r : List Adv) : Array Value := Tri.row u (Adv.changes (Adv.rep r) r.length : Nat) ((Adv.turns (Adv.rep r) r.length).1 : Nat) (Tri.lo (Adv.rep r) r.length) (Tri.hi (Adv.rep r) r.length) (Tri.sp (Tri.left p.tg r) r.length) (Tri.sh (Tri.left p.tg r) r.length)

set_option maxHeartbeats 1000000 in
set_option maxRecDepth 100000 in
theorem trial_run_pol (p : Pol) (hok : p.ok = false) (q : Option Addr) (n cap : Nat) (sa ro : Int) (w : World) :
    Calls Tryz.prog 7 #[.agg #[.int .i64 p.mn, .int .i64 p.mx, .int .i64 p.tg, .int .i64 p.tl, .int .i64 p.wi, .int .i64 p.ho], .slice q n cap, .int .i64 sa, .int .i64 ro] w fun e w' => e = .returned (.tuple #[.agg #[.slice none 0 0, .int .i64 0, .int .i64 0, .int .i64 0, .int .i64 0, .int .i64 0, .int .i64 0], .int .i64 7]) ∧ Below w.heap.size w w' := by
  have HC := Lib.hid (fun W => policy_check p W)
  have he : p.err = 7 := by unfold Pol.err; rw [if_neg (by rw [hok]; simp)]
  rw [he] at HC
  have M0 : Hid (Mem w ((w.alloc (.cells #[.int .i64 p.mn, .int .i64 p.mx, .int .i64 p.tg, .int .i64 p.tl, .int .i64 p.wi, .int .i64 p.ho] 23)).alloc (.cells #[.slice none 0 0, .int .i64 0, .int .i64 0, .int .i64 0, .int .i64 0, .int .i64 0, .int .i64 0] 28)) [(w.heap.size, .cells #[.int .i64 p.mn, .int .i64 p.mx, .int .i64 p.tg, .int .i64 p.tl, .int .i64 p.wi, .int .i64 p.ho] 23), (w.heap.size + 1, .cells #[.slice none 0 0, .int .i64 0, .int .i64 0, .int .i64 0, .int .i64 0, .int .i64 0, .int .i64 0] 28)]) := ((Mem.start w).alloc _).allocAs (w.heap.size + 1) _ (by simp)
  clear he hok
  go_enter Tryz.func7, Tryz.ntmps7
  have K0 := Lib.hid (M0.out.heap 0 rfl)
  go_wp2_with ((with_reducible refine wpList_load_rowAs rfl 23 _ rfl (w.heap.size) ?_ 23 #[.int .i64 p.mn, .int .i64 p.mx, .int .i64 p.tg, .int .i64 p.tl, .int .i64 p.wi, .int .i64 p.ho] (0, 0) _ 6 ?_ Tryz.underlying23 rfl (by kernel_rfl) ?_ ?_); exact rfl; exact K0.out; exact rfl)
  (with_reducible refine (HC.out _).mono ?_)
  rintro e w1 ⟨rfl, hb1⟩
  have M1 := Lib.hid (M0.out.call hb1)
  have K1 := Lib.hid (M1.out.heap 1 rfl)
  clear hb1 M0 K0
  go_wp2_with ((with_reducible refine wpList_store_rowAs rfl 28 _ _ rfl ((w.heap.size + 1)) #[.slice none 0 0, .int .i64 0, .int .i64 0, .int .i64 0, .int .i64 0, .int .i64 0, .int .i64 0] ?_ ?_ 28 #[.slice none 0 0, .int .i64 0, .int .i64 0, .int .i64 0, .int .i64 0, .int .i64 0, .int .i64 0] 7 ?_ (by kernel_rfl) rfl rfl (by simp [Value.oneCell']) ?_); exact rfl; exact rfl; exact K1.out)
  have MF := Lib.hid (M1.out.setRow 1 (cs := #[.slice none 0 0, .int .i64 0, .int .i64 0, .int .i64 0, .int .i64 0, .int .i64 0, .int .i64 0]) rfl)
  exact bodyPost_ret (results_row_tmp rfl _ _ (w.heap.size + 1) 28 #[.slice none 0 0, .int .i64 0, .int .i64 0, .int .i64 0, .int .i64 0, .int .i64 0, .int .i64 0] (0, 0) _ 7 _ rfl rfl (MF.out.heap 1 rfl) Tryz.underlying28 rfl runResSize rfl) rfl ⟨rfl, MF.out.below⟩

set_option maxHeartbeats 2000000 in
set_option maxRecDepth 100000 in
theorem trial_run_arg (p : Pol) (hok : p.ok = true) (q : Option Addr) (n cap : Nat) (sa ro : Int) (hbad : sa < 1 ∨ 256 < sa ∨ ro < 1 ∨ 64 < ro) (w : World) :
    Calls Tryz.prog 7 #[.agg #[.int .i64 p.mn, .int .i64 p.mx, .int .i64 p.tg, .int .i64 p.tl, .int .i64 p.wi, .int .i64 p.ho], .slice q n cap, .int .i64 sa, .int .i64 ro] w fun e w' => e = .returned (.tuple #[.agg #[.slice none 0 0, .int .i64 0, .int .i64 0, .int .i64 0, .int .i64 0, .int .i64 0, .int .i64 0], .int .i64 1]) ∧ Below w.heap.size w w' := by
  have HC := Lib.hid (fun W => policy_check p W)
  have he : p.err = 0 := by unfold Pol.err; rw [if_pos hok]
  rw [he] at HC
  have M0 : Hid (Mem w ((w.alloc (.cells #[.int .i64 p.mn, .int .i64 p.mx, .int .i64 p.tg, .int .i64 p.tl, .int .i64 p.wi, .int .i64 p.ho] 23)).alloc (.cells #[.slice none 0 0, .int .i64 0, .int .i64 0, .int .i64 0, .int .i64 0, .int .i64 0, .int .i64 0] 28)) [(w.heap.size, .cells #[.int .i64 p.mn, .int .i64 p.mx, .int .i64 p.tg, .int .i64 p.tl, .int .i64 p.wi, .int .i64 p.ho] 23), (w.heap.size + 1, .cells #[.slice none 0 0, .int .i64 0, .int .i64 0, .int .i64 0, .int .i64 0, .int .i64 0, .int .i64 0] 28)]) := ((Mem.start w).alloc _).allocAs (w.heap.size + 1) _ (by simp)
  clear he hok
  by_cases h0 : sa < 1
  · have d0 : decide (sa < 1) = true := decide_eq_true h0
    clear hbad
    go_enter Tryz.func7, Tryz.ntmps7
    have K0 := Lib.hid (M0.out.heap 0 rfl)
    go_wp2_with ((with_reducible refine wpList_load_rowAs rfl 23 _ rfl (w.heap.size) ?_ 23 #[.int .i64 p.mn, .int .i64 p.mx, .int .i64 p.tg, .int .i64 p.tl, .int .i64 p.wi, .int .i64 p.ho] (0, 0) _ 6 ?_ Tryz.underlying23 rfl (by kernel_rfl) ?_ ?_); exact rfl; exact K0.out; exact rfl)
    (with_reducible refine (HC.out _).mono ?_)
    rintro e w1 ⟨rfl, hb1⟩
    have M1 := Lib.hid (M0.out.call hb1)
    have K1 := Lib.hid (M1.out.heap 1 rfl)
    clear hb1 M0 K0
    go_wp2_with ((with_reducible refine wpList_store_rowAs rfl 28 _ _ rfl ((w.heap.size + 1)) #[.slice none 0 0, .int .i64 0, .int .i64 0, .int .i64 0, .int .i64 0, .int .i64 0, .int .i64 0] ?_ ?_ 28 #[.slice none 0 0, .int .i64 0, .int .i64 0, .int .i64 0, .int .i64 0, .int .i64 0, .int .i64 0] 7 ?_ (by kernel_rfl) rfl rfl (by simp [Value.oneCell']) ?_); exact rfl; exact rfl; exact K1.out)
    have MF := Lib.hid (M1.out.setRow 1 (cs := #[.slice none 0 0, .int .i64 0, .int .i64 0, .int .i64 0, .int .i64 0, .int .i64 0, .int .i64 0]) rfl)
    exact bodyPost_ret (results_row_tmp rfl _ _ (w.heap.size + 1) 28 #[.slice none 0 0, .int .i64 0, .int .i64 0, .int .i64 0, .int .i64 0, .int .i64 0, .int .i64 0] (0, 0) _ 7 _ rfl rfl (MF.out.heap 1 rfl) Tryz.underlying28 rfl runResSize rfl) rfl ⟨rfl, MF.out.below⟩
  have d0 : decide (sa < 1) = false := decide_eq_false h0
  by_cases h1 : 256 < sa
  · have d1 : decide (256 < sa) = true := decide_eq_true h1
    clear hbad
    go_enter Tryz.func7, Tryz.ntmps7
    have K0 := Lib.hid (M0.out.heap 0 rfl)
    go_wp2_with ((with_reducible refine wpList_load_rowAs rfl 23 _ rfl (w.heap.size) ?_ 23 #[.int .i64 p.mn, .int .i64 p.mx, .int .i64 p.tg, .int .i64 p.tl, .int .i64 p.wi, .int .i64 p.ho] (0, 0) _ 6 ?_ Tryz.underlying23 rfl (by kernel_rfl) ?_ ?_); exact rfl; exact K0.out; exact rfl)
    (with_reducible refine (HC.out _).mono ?_)
    rintro e w1 ⟨rfl, hb1⟩
    have M1 := Lib.hid (M0.out.call hb1)
    have K1 := Lib.hid (M1.out.heap 1 rfl)
    clear hb1 M0 K0
    go_wp2_with ((with_reducible refine wpList_store_rowAs rfl 28 _ _ rfl ((w.heap.size + 1)) #[.slice none 0 0, .int .i64 0, .int .i64 0, .int .i64 0, .int .i64 0, .int .i64 0, .int .i64 0] ?_ ?_ 28 #[.slice none 0 0, .int .i64 0, .int .i64 0, .int .i64 0, .int .i64 0, .int .i64 0, .int .i64 0] 7 ?_ (by kernel_rfl) rfl rfl (by simp [Value.oneCell']) ?_); exact rfl; exact rfl; exact K1.out)
    have MF := Lib.hid (M1.out.setRow 1 (cs := #[.slice none 0 0, .int .i64 0, .int .i64 0, .int .i64 0, .int .i64 0, .int .i64 0, .int .i64 0]) rfl)
    exact bodyPost_ret (results_row_tmp rfl _ _ (w.heap.size + 1) 28 #[.slice none 0 0, .int .i64 0, .int .i64 0, .int .i64 0, .int .i64 0, .int .i64 0, .int .i64 0] (0, 0) _ 7 _ rfl rfl (MF.out.heap 1 rfl) Tryz.underlying28 rfl runResSize rfl) rfl ⟨rfl, MF.out.below⟩
  have d1 : decide (256 < sa) = false := decide_eq_false h1
  by_cases h2 : ro < 1
  · have d2 : decide (ro < 1) = true := decide_eq_true h2
    clear hbad
    go_enter Tryz.func7, Tryz.ntmps7
    have K0 := Lib.hid (M0.out.heap 0 rfl)
    go_wp2_with ((with_reducible refine wpList_load_rowAs rfl 23 _ rfl (w.heap.size) ?_ 23 #[.int .i64 p.mn, .int .i64 p.mx, .int .i64 p.tg, .int .i64 p.tl, .int .i64 p.wi, .int .i64 p.ho] (0, 0) _ 6 ?_ Tryz.underlying23 rfl (by kernel_rfl) ?_ ?_); exact rfl; exact K0.out; exact rfl)
    (with_reducible refine (HC.out _).mono ?_)
    rintro e w1 ⟨rfl, hb1⟩
    have M1 := Lib.hid (M0.out.call hb1)
    have K1 := Lib.hid (M1.out.heap 1 rfl)
    clear hb1 M0 K0
    go_wp2_with ((with_reducible refine wpList_store_rowAs rfl 28 _ _ rfl ((w.heap.size + 1)) #[.slice none 0 0, .int .i64 0, .int .i64 0, .int .i64 0, .int .i64 0, .int .i64 0, .int .i64 0] ?_ ?_ 28 #[.slice none 0 0, .int .i64 0, .int .i64 0, .int .i64 0, .int .i64 0, .int .i64 0, .int .i64 0] 7 ?_ (by kernel_rfl) rfl rfl (by simp [Value.oneCell']) ?_); exact rfl; exact rfl; exact K1.out)
    have MF := Lib.hid (M1.out.setRow 1 (cs := #[.slice none 0 0, .int .i64 0, .int .i64 0, .int .i64 0, .int .i64 0, .int .i64 0, .int .i64 0]) rfl)
    exact bodyPost_ret (results_row_tmp rfl _ _ (w.heap.size + 1) 28 #[.slice none 0 0, .int .i64 0, .int .i64 0, .int .i64 0, .int .i64 0, .int .i64 0, .int .i64 0] (0, 0) _ 7 _ rfl rfl (MF.out.heap 1 rfl) Tryz.underlying28 rfl runResSize rfl) rfl ⟨rfl, MF.out.below⟩
  have d2 : decide (ro < 1) = false := decide_eq_false h2
  have d3 : decide (64 < ro) = true := decide_eq_true (by omega)
  clear hbad
  go_enter Tryz.func7, Tryz.ntmps7
  have K0 := Lib.hid (M0.out.heap 0 rfl)
  go_wp2_with ((with_reducible refine wpList_load_rowAs rfl 23 _ rfl (w.heap.size) ?_ 23 #[.int .i64 p.mn, .int .i64 p.mx, .int .i64 p.tg, .int .i64 p.tl, .int .i64 p.wi, .int .i64 p.ho] (0, 0) _ 6 ?_ Tryz.underlying23 rfl (by kernel_rfl) ?_ ?_); exact rfl; exact K0.out; exact rfl)
  (with_reducible refine (HC.out _).mono ?_)
  rintro e w1 ⟨rfl, hb1⟩
  have M1 := Lib.hid (M0.out.call hb1)
  have K1 := Lib.hid (M1.out.heap 1 rfl)
  clear hb1 M0 K0
  go_wp2_with ((with_reducible refine wpList_store_rowAs rfl 28 _ _ rfl ((w.heap.size + 1)) #[.slice none 0 0, .int .i64 0, .int .i64 0, .int .i64 0, .int .i64 0, .int .i64 0, .int .i64 0] ?_ ?_ 28 #[.slice none 0 0, .int .i64 0, .int .i64 0, .int .i64 0, .int .i64 0, .int .i64 0, .int .i64 0] 7 ?_ (by kernel_rfl) rfl rfl (by simp [Value.oneCell']) ?_); exact rfl; exact rfl; exact K1.out)
  have MF := Lib.hid (M1.out.setRow 1 (cs := #[.slice none 0 0, .int .i64 0, .int .i64 0, .int .i64 0, .int .i64 0, .int .i64 0, .int .i64 0]) rfl)
  exact bodyPost_ret (results_row_tmp rfl _ _ (w.heap.size + 1) 28 #[.slice none 0 0, .int .i64 0, .int .i64 0, .int .i64 0, .int .i64 0, .int .i64 0, .int .i64 0] (0, 0) _ 7 _ rfl rfl (MF.out.heap 1 rfl) Tryz.underlying28 rfl runResSize rfl) rfl ⟨rfl, MF.out.below⟩

set_option maxHeartbeats 2000000 in
set_option maxRecDepth 100000 in
theorem trial_run (p : Pol) (hp : p.In) (hok : p.ok = true) (q : Option Addr) (cap : Nat) (l : List Samp) (hl : ∀ a ∈ l, a.In) (hb : l.length ≤ 1000) (sa ro : Int) (h0 : ¬ sa < 1) (h1 : ¬ 256 < sa) (h2 : ¬ ro < 1) (h3 : ¬ 64 < ro) (w : World) (hs : Samps w q l) :
    Calls Tryz.prog 7 #[.agg #[.int .i64 p.mn, .int .i64 p.mx, .int .i64 p.tg, .int .i64 p.tl, .int .i64 p.wi, .int .i64 p.ho], .slice q l.length cap, .int .i64 sa, .int .i64 ro] w fun e w' => ∃ (u : Option Addr) (d : Nat), e = .returned (.tuple #[.agg (Run.row p (.slice u (Fol.of p l sa ro).length d) (Fol.of p l sa ro)), .int .i64 0]) ∧ Advs w' u (Fol.of p l sa ro) ∧ Below w.heap.size w w' := by
  have HC := Lib.hid (fun W => policy_check p W)
  have he : p.err = 0 := by unfold Pol.err; rw [if_pos hok]
  rw [he] at HC
  have M0 : Hid (Mem w ((w.alloc (.cells #[.int .i64 p.mn, .int .i64 p.mx, .int .i64 p.tg, .int .i64 p.tl, .int .i64 p.wi, .int .i64 p.ho] 23)).alloc (.cells #[.slice none 0 0, .int .i64 0, .int .i64 0, .int .i64 0, .int .i64 0, .int .i64 0, .int .i64 0] 28)) [(w.heap.size, .cells #[.int .i64 p.mn, .int .i64 p.mx, .int .i64 p.tg, .int .i64 p.tl, .int .i64 p.wi, .int .i64 p.ho] 23), (w.heap.size + 1, .cells #[.slice none 0 0, .int .i64 0, .int .i64 0, .int .i64 0, .int .i64 0, .int .i64 0, .int .i64 0] 28)]) := ((Mem.start w).alloc _).allocAs (w.heap.size + 1) _ (by simp)
  have f1 := fun W : World => fun h : Samps W q l => follow_own p hp q cap l hl hb sa ro W h
  have hall := Fol.all p hp l hl sa ro
  have hlen := Fol.length_le p l sa ro
  obtain ⟨r, er⟩ : ∃ r, r = Fol.of p l sa ro := ⟨_, rfl⟩
  simp only [← er] at f1 hall hlen ⊢
  unfold Run.row
  obtain ⟨m, em⟩ : ∃ m, m = r.length := ⟨_, rfl⟩
  have f2 := fun (u : Option Addr) (d : Nat) (hu : u = none → m = 0 ∧ d = 0) (W : World) (h : Advs W u r) => trial_judge p hp u m d r em.symm (fun a ha => (hall a ha).1) (by omega) hu W h
  rw [← em] at hlen
  simp only [← em] at f1 ⊢
  unfold Tri.row at f2 ⊢
  obtain ⟨C, eC⟩ : ∃ x : Int, x = (Adv.changes (Adv.rep r) m : Nat) := ⟨_, rfl⟩
  obtain ⟨T, eT⟩ : ∃ x : Int, x = ((Adv.turns (Adv.rep r) m).1 : Nat) := ⟨_, rfl⟩
  obtain ⟨a, ea⟩ : ∃ x, x = Tri.lo (Adv.rep r) m := ⟨_, rfl⟩
  obtain ⟨b, eb⟩ : ∃ x, x = Tri.hi (Adv.rep r) m := ⟨_, rfl⟩
  obtain ⟨x, ex⟩ : ∃ x, x = Tri.sp (Tri.left p.tg r) m := ⟨_, rfl⟩
  obtain ⟨y, ey⟩ : ∃ x, x = Tri.sh (Tri.left p.tg r) m := ⟨_, rfl⟩
  simp only [← eC, ← eT, ← ea, ← eb, ← ex, ← ey] at f2 ⊢
  have F1 := Lib.hid f1
  have F2 := Lib.hid f2
  have HS := Lib.hid hs
  have d0 : decide (sa < 1) = false := decide_eq_false h0
  have d1 : decide (256 < sa) = false := decide_eq_false h1
  have d2 : decide (ro < 1) = false := decide_eq_false h2
  have d3 : decide (64 < ro) = false := decide_eq_false h3
  obtain ⟨n, en⟩ : ∃ n, n = l.length := ⟨_, rfl⟩
  simp only [← en] at F1 ⊢
  clear he hok f1 f2 eC eT ea eb ex ey em er hall hlen hs hl hp hb h0 h1 h2 h3 en
  go_enter Tryz.func7, Tryz.ntmps7
  have K0 := Lib.hid (M0.out.heap 0 rfl)
  go_wp2_with ((with_reducible refine wpList_load_rowAs rfl 23 _ rfl (w.heap.size) ?_ 23 #[.int .i64 p.mn, .int .i64 p.mx, .int .i64 p.tg, .int .i64 p.tl, .int .i64 p.wi, .int .i64 p.ho] (0, 0) _ 6 ?_ Tryz.underlying23 rfl (by kernel_rfl) ?_ ?_); exact rfl; exact K0.out; exact rfl)
  (with_reducible refine (HC.out _).mono ?_)
  rintro e w1 ⟨rfl, hb1⟩
  have M1 := Lib.hid (M0.out.call hb1)
  clear hb1 M0 K0
  go_wp2_with fail
  have hst := stab_and (stab_mem (w := w) (bs := [(w.heap.size, .cells #[.int .i64 p.mn, .int .i64 p.mx, .int .i64 p.tg, .int .i64 p.tl, .int .i64 p.wi, .int .i64 p.ho] 23), (w.heap.size + 1, .cells #[.slice none 0 0, .int .i64 0, .int .i64 0, .int .i64 0, .int .i64 0, .int .i64 0, .int .i64 0] 28)])) (stab_samps (q := q) (l := l))
  refine wp_region_E mixed [7] hst ⟨M1.out.drewN 1, HS.out.below (M1.out.drewN 1).below⟩ ?_
  refine wpAnyE_take 0 (v := .agg #[.int .i64 p.mn, .int .i64 p.mx, .int .i64 p.tg, .int .i64 p.tl, .int .i64 p.wi, .int .i64 p.ho]) rfl (by kernel_rfl) (by kernel_rfl) (by kernel_rfl) (fun _ _ _ h => h) hst (EffB.run rfl rfl (fun wd hS => ?_)) (.inl (by kernel_rfl)) ?_
  · exact wp_load_row 23 _ rfl (w.heap.size) rfl 23 #[.int .i64 p.mn, .int .i64 p.mx, .int .i64 p.tg, .int .i64 p.tl, .int .i64 p.wi, .int .i64 p.ho] (0, 0) _ (hS.1.heap 0 rfl) Tryz.underlying23 rfl (by kernel_rfl) ⟨rfl, Below.refl _ _⟩
  simp only [act_norm]
  refine wpAnyE_take 1 (v := .agg #[.int .i64 p.mn, .int .i64 p.mx, .int .i64 p.tg, .int .i64 p.tl, .int .i64 p.wi, .int .i64 p.ho]) rfl (by kernel_rfl) (by kernel_rfl) (by kernel_rfl) (fun _ _ _ h => h) hst (EffB.run rfl rfl (fun wd hS => ?_)) (.inl (by kernel_rfl)) ?_
  · exact wp_load_row 23 _ rfl (w.heap.size) rfl 23 #[.int .i64 p.mn, .int .i64 p.mx, .int .i64 p.tg, .int .i64 p.tl, .int .i64 p.wi, .int .i64 p.ho] (0, 0) _ (hS.1.heap 0 rfl) Tryz.underlying23 rfl (by kernel_rfl) ⟨rfl, Below.refl _ _⟩
  simp only [act_norm]
  refine wpAnyE_take 2 rfl (by kernel_rfl) (by kernel_rfl) (by kernel_rfl) (fun _ _ _ h => h) hst (EffB.pure rfl (fun _ => rfl)) (.inr (EffB.pure rfl (fun _ => rfl))) ?_
  simp only [act_norm]
  refine wpAnyE_take 3 rfl (by kernel_rfl) (by kernel_rfl) (by kernel_rfl) (fun _ _ _ h => h) hst (EffB.pure rfl (fun _ => rfl)) (.inr (EffB.pure rfl (fun _ => rfl))) ?_
  simp only [act_norm]
  refine wpAnyE_take 4 rfl (by kernel_rfl) (by kernel_rfl) (by kernel_rfl) (fun _ _ _ h => h) hst (EffB.pure rfl (fun _ => rfl)) (.inr (EffB.pure rfl (fun _ => rfl))) ?_
  simp only [act_norm]
  refine wpAnyE_one 5 rfl (by kernel_rfl) rfl (fun wd hS => ?_)
  go_wp2_with fail
  (with_reducible refine (F1.out _ hS.2).mono ?_)
  rintro e w5 ⟨u, d, rfl, hud, hA, hb5⟩
  have hst2 := stab_and hst (stab_advs (q := u) (l := r))
  refine ⟨_, ⟨hst _ _ hS hb5, hA⟩, hst2, (by first | exact fun _ h => h.1 | exact .inr fun _ h => h.1), ?_⟩
  try simp only [act_norm]
  have HUD := Lib.hid hud
  clear hA hb5 hS hst M1 hud
  have hst := hst2
  refine wpAnyE_one 6 rfl (by kernel_rfl) rfl (fun wd hS => ?_)
  go_wp2_with fail
  (with_reducible refine (F2.out u d HUD.out _ hS.2).mono ?_)
  rintro e w6 ⟨q1, d1, rfl, hA, _, hb6⟩
  have hlo : w.heap.size + 2 ≤ wd.heap.size := by have := hS.1.1.lt (i := 1) rfl; omega
  obtain ⟨A, eA⟩ : ∃ A, A = wd.heap.size := ⟨_, rfl⟩
  rw [← eA] at hA hlo
  have hst3 := stab_and hst (stab_advsIn (A := A) (B := w6.heap.size) (q := q1) (l := r))
  have hS6 := hst _ _ hS hb6
  refine ⟨_, ⟨hS6, hA⟩, hst3, (by first | exact fun _ h => h.1 | exact .inr fun _ h => h.1), ?_⟩
  try simp only [act_norm]
  have hB6 : w.heap.size + 2 ≤ w6.heap.size := by have := hS6.1.1.lt (i := 1) rfl; omega
  obtain ⟨B, eB⟩ : ∃ B, B = w6.heap.size := ⟨_, rfl⟩
  rw [← eB] at hst3 hB6
  rw [← eB]
  clear hA hb6 hS hS6 hst hst2 eA eB
  refine wpAnyE_one 7 rfl (by kernel_rfl) rfl (fun wd hS => ?_)
  refine wp_store_row 28 _ _ rfl (w.heap.size + 1) #[.slice q1 m d1, .int .i64 C, .int .i64 T, .int .i64 a, .int .i64 b, .int .i64 x, .int .i64 y] rfl rfl 28 #[.slice none 0 0, .int .i64 0, .int .i64 0, .int .i64 0, .int .i64 0, .int .i64 0, .int .i64 0] (hS.1.1.1.heap 1 rfl) runResSize rfl (by simp [Value.oneCell']) ?_
  have hst4 := stab_and (stab_mem (w := w) (bs := [(w.heap.size, .cells #[.int .i64 p.mn, .int .i64 p.mx, .int .i64 p.tg, .int .i64 p.tl, .int .i64 p.wi, .int .i64 p.ho] 23), (w.heap.size + 1, .cells #[.slice q1 m d1, .int .i64 C, .int .i64 T, .int .i64 a, .int .i64 b, .int .i64 x, .int .i64 y] 28)])) (stab_advsIn (A := A) (B := B) (q := q1) (l := r))
  refine ⟨_, ⟨hS.1.1.1.setRow 1 rfl, hS.2.setRow (w.heap.size + 1) (.inl (by omega)) _⟩, hst4, .inl (by decide), ?_⟩
  try simp only [act_norm]
  clear hS hst3
  have hst := hst4
  refine wpAnyE_take 8 rfl (by kernel_rfl) (by kernel_rfl) (by kernel_rfl) (fun _ _ _ h => h) hst (EffB.pure rfl (fun _ => rfl)) (.inr (EffB.pure rfl (fun _ => rfl))) ?_
  simp only [act_norm]
  refine wpAnyE_done (by kernel_rfl) (fun wd hS => ?_) _
  have MF := Lib.hid hS.1
  have AF := Lib.hid hS.2
  clear hS hst hst4
  go_wp2
  exact bodyPost_ret (results_row_tmp rfl _ _ (w.heap.size + 1) 28 #[.slice q1 m d1, .int .i64 C, .int .i64 T, .int .i64 a, .int .i64 b, .int .i64 x, .int .i64 y] (0, 0) _ 7 _ rfl rfl (MF.out.heap 1 rfl) Tryz.underlying28 rfl runResSize rfl) rfl ⟨q1, d1, rfl, AF.out.1, MF.out.below⟩
end Go.Proofs.YtildjnibdappnaaGreat
