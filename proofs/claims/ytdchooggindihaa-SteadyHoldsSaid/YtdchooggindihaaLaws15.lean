/- Layer 15: the laws, walked. -/
import Derived.Test.YtdchooggindihaaAdv4
import Derived.Test.YtdchooggindihaaStructs
namespace Go.Proofs.Ytdchooggindihaa
open Go.ChangeShapes Go.WideShapes Go.ChangeAt Go.RowKit

theorem advInfo : (Try.prog.info? 53).map (fun i => (i.zero, i.size, i.bytes)) = some (some (.agg #[.int .i64 0, .int .i64 0, .int .i64 0, .int .i64 0, .int .i64 0]), 5, 40) := by kernel_rfl

/-- Decisions as values. -/
def advVals : List Adv → List Value
  | [] => []
  | a :: l => .int .i64 a.tick :: .int .i64 a.load :: .int .i64 a.want :: .int .i64 a.repl :: .int .i64 a.why :: advVals l
theorem advVals_append : ∀ l m : List Adv, advVals (l ++ m) = advVals l ++ advVals m
  | [], m => rfl
  | a :: l, m => by simp [advVals, advVals_append l m]
theorem advVals_len : ∀ l : List Adv, (advVals l).length = l.length * 5
  | [] => rfl
  | a :: l => by simp [advVals, advVals_len l]; omega
theorem advVals_get : ∀ (l : List Adv) (j : Nat), j < l.length * 5 → (advVals l)[j]? = some (.int .i64 ((l[j / 5]?.getD default).get (j % 5)))
  | [], j, h => by simp at h
  | a :: l, j, h => by
    match j, h with
    | 0, _ => rfl
    | 1, _ => rfl
    | 2, _ => rfl
    | 3, _ => rfl
    | 4, _ => rfl
    | j + 5, h =>
      have ih := advVals_get l j (by simp at h; omega)
      rw [show (j + 5) / 5 = j / 5 + 1 by omega, show (j + 5) % 5 = j % 5 by omega]
      simpa [advVals] using ih
theorem advs_of_owns {w : World} {B : Nat} {v : Value} {l : List Adv} (h : Owns w B 5 v l.length (advVals l)) : ∃ p cap, v = .slice p l.length cap ∧ l.length ≤ cap ∧ Advs w p l := by
  obtain ⟨p, cap, hv, hc, _, hs, _⟩ := h.sl
  refine ⟨p, cap, hv, hc, ?_⟩
  rcases hs with hs | ⟨b, off, hp, hb, hcell⟩
  · exact .inl hs
  · refine .inr ⟨b, off, hp, hb, fun j hj => ?_⟩
    rw [hcell j hj]
    show some ((advVals l)[j]?.getD undef) = some (.int .i64 ((l[j / 5]?.getD default).get (j % 5)))
    rw [advVals_get l j hj]
    rfl

def Adv.row (a : Adv) : List Int := [a.tick, a.load, a.want, a.repl, a.why]
/-- A slice that came in, as decisions. -/
theorem advs_of_rows {w : World} {p : Option Addr} (l : List (List Int)) (h : Go.Proofs.Ytdchooggindihaa.Rows .i64 5 w p l) (hr : ∀ r ∈ l, r.length = 5 ∧ ∀ a ∈ r, (Lit.int .i64 a).wf = true) : ∃ m : List Adv, l = m.map Adv.row ∧ Advs w p m ∧ ∀ a ∈ m, a.In := by
  have key : ∀ r ∈ l, ∃ a : Adv, r = a.row ∧ a.In := by
    intro r hr'
    obtain ⟨h5, hw⟩ := hr r hr'
    match r, h5 with
    | [a, b, c, d, e], _ => exact ⟨⟨a, b, c, d, e⟩, rfl, I64.of_wf (hw a (by simp)), I64.of_wf (hw b (by simp)), I64.of_wf (hw c (by simp)), I64.of_wf (hw d (by simp)), I64.of_wf (hw e (by simp))⟩
  have all : ∃ m : List Adv, l = m.map Adv.row ∧ ∀ a ∈ m, a.In := by
    clear h hr
    induction l with
    | nil => exact ⟨[], rfl, by simp⟩
    | cons r l ih =>
      obtain ⟨m, hm, hi⟩ := ih (fun r hr => key r (by simp [hr]))
      obtain ⟨a, ha, hai⟩ := key r (by simp)
      exact ⟨a :: m, by rw [ha, hm]; rfl, by intro b hb; rcases List.mem_cons.1 hb with rfl | hb; exact hai; exact hi b hb⟩
  obtain ⟨m, rfl, hi⟩ := all
  refine ⟨m, rfl, ?_, hi⟩
  unfold Go.Proofs.Ytdchooggindihaa.Rows at h
  rw [List.length_map] at h
  rcases h with h | ⟨b, off, hp, hb, hc⟩
  · exact .inl h
  · refine .inr ⟨b, off, hp, hb, fun j hj => ?_⟩
    rw [hc j hj]
    have hq : j / 5 < m.length := by omega
    have hm : j % 5 < 5 := Nat.mod_lt _ (by omega)
    simp only [List.getElem?_map, List.getElem?_eq_getElem hq, Option.map_some, Option.getD_some]
    generalize j % 5 = i at hm
    generalize m[j / 5] = a
    match i, hm with
    | 0, _ => rfl
    | 1, _ => rfl
    | 2, _ => rfl
    | 3, _ => rfl
    | 4, _ => rfl

def rowAdv (l : List Int) : List Adv := l.map fun n => ⟨1, 0, n, n, 0⟩

/-- A call that hands back a slice of its own. -/
def RetAdvs (w : World) (l : List Adv) (e : Ending) (w' : World) : Prop := ∃ p cap, e = .returned (.slice p l.length cap) ∧ l.length ≤ cap ∧ Advs w' p l ∧ Below w.heap.size w w'

set_option maxHeartbeats 1000000 in
set_option maxRecDepth 100000 in
theorem law15_row (p : Option Addr) (cap : Nat) (l : List Int) (hb : l.length ≤ 1000) (w : World) (hs : Ints .i64 w p l) :
    Calls Try.prog 94 #[.slice p l.length cap] w (RetAdvs w (rowAdv l)) := by
  have HS := Lib.hid hs
  obtain ⟨n, hn⟩ : ∃ n, n = l.length := ⟨_, rfl⟩
  have HG : Hid (rowAdv (l.take n) = rowAdv l) := by show _ = _; rw [hn, List.take_length]
  have HL : Hid (∀ k, k ≤ n → (rowAdv (l.take k)).length = k) := fun k hk => by simp [rowAdv]; omega
  obtain ⟨r, hr⟩ : ∃ r, r = rowAdv l := ⟨_, rfl⟩
  rw [← hr] at HG ⊢
  rw [← hn] at hb ⊢
  have HN := Lib.hid hn
  clear hs hn hr
  go_enter Try.func94, Try.ntmps94
  go_wp2
  go_loopw [3, 8] (fun v i wr => ∃ k : Nat, k ≤ n ∧ i = .int .i64 k ∧ Owns wr w.heap.size 5 v k (advVals (rowAdv (l.take k))) ∧ Below w.heap.size w wr) (fun _ i _ => n - (intOf i).toNat)
  case atStart => exact ⟨0, by omega, rfl, owns_nil _ _ _, Below.refl _ _⟩
  case round =>
    obtain ⟨k, hk, rfl, hO, hB⟩ := hrel
    have HO := Lib.hid hO
    have HB := Lib.hid hB
    clear hO hB
    by_cases hlt : k < n
    · have hkl : k < l.length := by have := HN.out; omega
      obtain ⟨b, off, rfl, hbw, hc⟩ := HS.out.pos (by omega)
      have hcell := hc k (by omega)
      rw [← HB.out.cell (p := ⟨b, off + k, none⟩) hbw] at hcell
      have HSN : Hid (rowAdv (l.take (k + 1)) = rowAdv (l.take k) ++ [⟨1, 0, l[k]?.getD 0, l[k]?.getD 0, 0⟩]) := by
        show _ = _
        unfold rowAdv
        rw [List.take_succ_eq_append_getElem hkl, List.map_append, List.getElem?_eq_getElem hkl]
        rfl
      obtain ⟨x, ex⟩ : ∃ x, x = l[k]?.getD 0 := ⟨_, rfl⟩
      rw [← ex] at hcell HSN
      have hBW := HB.out
      clear hc ex hkl
      go_wp2_with (at_builtin; refine wpList_append_new rfl _ _ 51 rfl _ _ 53 rfl _ 53 (.agg #[.int .i64 0, .int .i64 0, .int .i64 0, .int .i64 0, .int .i64 0]) 5 40 Try.underlying51 advInfo rfl (by decide) _ _ _ rfl (HO.out) rfl rfl (by first | (simp [Value.oneCell']; done) | (intro u hu; simp at hu; subst hu; rfl)) (by unfold maxLen; omega) (by omega) (Below.size (by assumption)) ?_; intro u1 x1 ha1 hg1 hc1)
      exact ⟨⟨k + 1, by omega, by go_num, by rw [HSN.out, advVals_append]; exact ha1, HB.out.trans hc1⟩, by simp [intOf]; omega⟩
    · obtain rfl : k = n := by omega
      rw [HG.out] at HO
      have hl := HL.out k (Nat.le_refl _)
      rw [HG.out] at hl
      have HR := Lib.hid hl
      clear hl
      go_wp2
      go_ret
      obtain ⟨q, c, h1, h2, h3⟩ := advs_of_owns (l := r) (by rw [HR.out]; exact HO.out)
      exact ⟨q, c, by rw [← h1]; rfl, h2, h3, HB.out⟩

set_option maxHeartbeats 1000000 in
set_option maxRecDepth 100000 in
theorem awake15 (w : World) : Calls Try.prog 58 #[] w fun e w' => e = .returned (.bool true) ∧ Below w.heap.size w w' := by
  have r1 : ∀ W : World, Calls Try.prog 94 #[.slice (some ⟨W.heap.size, 0, none⟩) 1 1] (W.alloc (.cells #[.int .i64 5] 2)) fun e w' => ∃ q c, e = .returned (.slice q 1 c) ∧ Advs w' q (rowAdv [5]) ∧ Below W.heap.size W w' :=
    fun W => (law15_row _ 1 [5] (by simp) _ (ints_alloc W [5] 2 _ rfl)).mono fun e w' ⟨q, c, h1, _, h3, h4⟩ => ⟨q, c, h1, h3, (below1 W _).trans (h4.mono (by simp))⟩
  have r2 : ∀ W : World, Calls Try.prog 94 #[.slice (some ⟨W.heap.size, 0, none⟩) 4 4] (W.alloc (.cells #[.int .i64 1, .int .i64 2, .int .i64 2, .int .i64 1] 2)) fun e w' => ∃ q c, e = .returned (.slice q 4 c) ∧ Advs w' q (rowAdv [1, 2, 2, 1]) ∧ Below W.heap.size W w' :=
    fun W => (law15_row _ 4 [1, 2, 2, 1] (by simp) _ (ints_alloc W [1, 2, 2, 1] 2 _ rfl)).mono fun e w' ⟨q, c, h1, _, h3, h4⟩ => ⟨q, c, h1, h3, (below1 W _).trans (h4.mono (by simp))⟩
  have r3 : ∀ W : World, Calls Try.prog 94 #[.slice (some ⟨W.heap.size, 0, none⟩) 3 3] (W.alloc (.cells #[.int .i64 1, .int .i64 2, .int .i64 2] 2)) fun e w' => ∃ q c, e = .returned (.slice q 3 c) ∧ Advs w' q (rowAdv [1, 2, 2]) ∧ Below W.heap.size W w' :=
    fun W => (law15_row _ 3 [1, 2, 2] (by simp) _ (ints_alloc W [1, 2, 2] 2 _ rfl)).mono fun e w' ⟨q, c, h1, _, h3, h4⟩ => ⟨q, c, h1, h3, (below1 W _).trans (h4.mono (by simp))⟩
  have t1 : ∀ (q : Option Addr) (c : Nat) (W : World), Advs W q (rowAdv [5]) → Calls Try.prog 59 #[.agg #[.int .i64 0, .int .i64 0, .int .i64 0, .int .i64 0, .int .i64 0, .int .i64 2], .int .i64 2, .int .i64 3, .slice q 1 c] W fun e w' => e = .returned (.tuple #[.int .i64 5, .bool true]) ∧ Below W.heap.size W w' := by
    intro q c W h
    have := steady_of ⟨0, 0, 0, 0, 0, 2⟩ (by unfold Pol.In I64; simp) 2 3 (by unfold I64; omega) q c (rowAdv [5]) (by simp [rowAdv]) W h
    rw [show Adv.held ⟨0, 0, 0, 0, 0, 2⟩ 2 3 (rowAdv [5]) = (5, true) by decide] at this
    exact this
  have t2 : ∀ (q : Option Addr) (c : Nat) (W : World), Advs W q (rowAdv [1, 2, 2, 1]) → Calls Try.prog 61 #[.slice q 4 c] W fun e w' => e = .returned (.int .i64 1) ∧ Below W.heap.size W w' := by
    intro q c W h
    have := steady_turns q c (rowAdv [1, 2, 2, 1]) (by simp [rowAdv]) W h
    rw [show (Adv.turns (Adv.rep (rowAdv [1, 2, 2, 1])) (rowAdv [1, 2, 2, 1]).length).1 = 1 by decide] at this
    exact this
  have t3 : ∀ (q : Option Addr) (c : Nat) (W : World), Advs W q (rowAdv [1, 2, 2]) → Calls Try.prog 62 #[.slice q 3 c] W fun e w' => e = .returned (.int .i64 2) ∧ Below W.heap.size W w' := by
    intro q c W h
    have := steady_streak q c (rowAdv [1, 2, 2]) (by simp [rowAdv]) W h
    rw [show Adv.streak (Adv.rep (rowAdv [1, 2, 2])) (rowAdv [1, 2, 2]).length (rowAdv [1, 2, 2]).length 0 = 2 by decide] at this
    exact this
  have R1 := Lib.hid r1
  have R2 := Lib.hid r2
  have R3 := Lib.hid r3
  have T1 := Lib.hid t1
  have T2 := Lib.hid t2
  have T3 := Lib.hid t3
  clear r1 r2 r3 t1 t2 t3
  go_enter Try.func58, Try.ntmps58
  go_wp2_with fail
  (with_reducible refine (R1.out _).mono ?_)
  rintro e w1 ⟨q1, c1, rfl, ha1, hb1⟩
  have HB := Lib.hid hb1
  have HA := Lib.hid ha1
  clear hb1 ha1
  go_wp2_with fail
  (with_reducible refine (T1.out _ _ _ HA.out).mono ?_)
  rintro e w2 ⟨rfl, hb2⟩
  have HB2 := Lib.hid (HB.out.trans (hb2.mono HB.out.size))
  clear hb2 HB HA
  go_wp2_with fail
  (with_reducible refine (R2.out _).mono ?_)
  rintro e w3 ⟨q1, c1, rfl, ha1, hb1⟩
  have HB := Lib.hid (HB2.out.trans (hb1.mono HB2.out.size))
  have HA := Lib.hid ha1
  clear hb1 ha1 HB2
  go_wp2_with fail
  (with_reducible refine (T2.out _ _ _ HA.out).mono ?_)
  rintro e w4 ⟨rfl, hb2⟩
  have HB2 := Lib.hid (HB.out.trans (hb2.mono HB.out.size))
  clear hb2 HB HA
  go_wp2_with fail
  (with_reducible refine (R3.out _).mono ?_)
  rintro e w5 ⟨q1, c1, rfl, ha1, hb1⟩
  have HB := Lib.hid (HB2.out.trans (hb1.mono HB2.out.size))
  have HA := Lib.hid ha1
  clear hb1 ha1 HB2
  go_wp2_with fail
  (with_reducible refine (T3.out _ _ _ HA.out).mono ?_)
  rintro e w6 ⟨rfl, hb2⟩
  have HB2 := Lib.hid (HB.out.trans (hb2.mono HB.out.size))
  clear hb2 HB HA
  go_wp2
  go_ret
  exact ⟨rfl, HB2.out⟩

set_option maxHeartbeats 1000000 in
set_option maxRecDepth 100000 in
theorem steadyHolds_walk (p : Pol) (hp : p.In) (tick want : Int) (ht : I64 tick) (q : Option Addr) (cap : Nat) (l : List Adv) (hb : l.length ≤ 9223372036854775807) (w : World) (hs : Advs w q l) :
    Calls Try.prog 12 #[.agg #[.int .i64 p.mn, .int .i64 p.mx, .int .i64 p.tg, .int .i64 p.tl, .int .i64 p.wi, .int .i64 p.ho], .int .i64 tick, .int .i64 want, .slice q l.length cap] w fun e w' => e = .returned (.bool true) ∧ Below w.heap.size w w' := by
  by_cases h100 : 100 < l.length
  · obtain ⟨n, hn⟩ : ∃ n, n = l.length := ⟨_, rfl⟩
    rw [← hn] at hb h100 ⊢
    clear hn hs
    go_enter Try.func12, Try.ntmps12
    go_wp2_with fail
    (with_reducible refine (awake15 _).mono ?_)
    rintro e w1 ⟨rfl, hb1⟩
    have HB := Lib.hid ((below1 w _).trans (hb1.mono (by simp)))
    clear hb1
    go_wp2
    go_ret
    exact ⟨rfl, HB.out⟩
  have h1 := fun W : World => fun h : Advs W q l => steady_of p hp tick want ht q cap l (by omega) W h
  have h2 := fun W : World => fun h : Advs W q l => ref15_of p hp tick want ht q cap l (by omega) W h
  have hsp := Adv.held_spec p tick want l
  obtain ⟨r, er⟩ : ∃ r, r = Adv.held p tick want l := ⟨_, rfl⟩
  rw [← er] at hsp
  simp only [← er] at h1 h2
  obtain ⟨m, f⟩ := r
  simp only at hsp h1 h2
  obtain ⟨sp1, sp2⟩ := hsp
  have H1 := Lib.hid h1
  have H2 := Lib.hid h2
  have HS := Lib.hid hs
  have SP2 := Lib.hid sp2
  obtain ⟨n, hn⟩ : ∃ n, n = l.length := ⟨_, rfl⟩
  rw [← hn] at hb h100 H1 H2 ⊢
  clear hn hs h1 h2 er sp2
  go_enter Try.func12, Try.ntmps12
  go_wp2_with fail
  (with_reducible refine (awake15 _).mono ?_)
  rintro e w1 ⟨rfl, hb1⟩
  have hs1 : Advs w1 q l := (HS.out.below (below1 w _)).below hb1
  have HB := Lib.hid ((below1 w (.cells #[.int .i64 p.mn, .int .i64 p.mx, .int .i64 p.tg, .int .i64 p.tl, .int .i64 p.wi, .int .i64 p.ho] 42)).trans (hb1.mono (by simp)))
  have K1 : Hid (w1.heap[w.heap.size]? = some (.cells #[.int .i64 p.mn, .int .i64 p.mx, .int .i64 p.tg, .int .i64 p.tl, .int .i64 p.wi, .int .i64 p.ho] 42 (0, 0))) := by show _ = _; rw [hb1.block _ (by simp)]; exact (by first | (with_reducible exact heap_1_0 _ _) | (with_reducible exact heap_2_0 _ _ _) | (with_reducible exact heap_2_1 _ _ _) | (with_reducible exact heap_3_0 _ _ _ _) | (with_reducible exact heap_3_1 _ _ _ _) | (with_reducible exact heap_3_2 _ _ _ _) | (with_reducible exact heap_4_0 _ _ _ _ _) | (with_reducible exact heap_4_1 _ _ _ _ _) | (with_reducible exact heap_4_2 _ _ _ _ _) | (with_reducible exact heap_4_3 _ _ _ _ _) | (with_reducible exact heap_5_0 _ _ _ _ _ _) | (with_reducible exact heap_5_1 _ _ _ _ _ _) | (with_reducible exact heap_5_2 _ _ _ _ _ _) | (with_reducible exact heap_5_3 _ _ _ _ _ _) | (with_reducible exact heap_5_4 _ _ _ _ _ _) | (with_reducible exact heap_6_0 _ _ _ _ _ _ _) | (with_reducible exact heap_6_1 _ _ _ _ _ _ _) | (with_reducible exact heap_6_2 _ _ _ _ _ _ _) | (with_reducible exact heap_6_3 _ _ _ _ _ _ _) | (with_reducible exact heap_6_4 _ _ _ _ _ _ _) | (with_reducible exact heap_6_5 _ _ _ _ _ _ _) | simp only [heap_alloc_past, heap_alloc_at, World.size_alloc, Nat.add_assoc, Nat.reduceAdd, Nat.lt_add_right_iff_pos, Nat.add_lt_add_iff_left, Nat.reduceLT, Nat.zero_lt_succ, Nat.lt_add_one])
  have HS1 := Lib.hid hs1
  clear hb1 hs1 HS
  go_wp2_with ((with_reducible refine wpList_load_rowAs rfl 42 _ rfl (w.heap.size) ?_ 42 #[.int .i64 p.mn, .int .i64 p.mx, .int .i64 p.tg, .int .i64 p.tl, .int .i64 p.wi, .int .i64 p.ho] (0, 0) _ 6 ?_ Try.underlying42 rfl (by kernel_rfl) ?_ ?_); exact rfl; exact K1.out; exact rfl)
  (with_reducible refine (H1.out _ HS1.out).mono ?_)
  rintro e w2 ⟨rfl, hb2⟩
  have hs2 : Advs w2 q l := HS1.out.below hb2
  have k2 := (hb2.block _ (lt_of_heap K1.out)).trans K1.out
  have HB2 := Lib.hid (HB.out.trans (hb2.mono HB.out.size))
  have HS2 := Lib.hid hs2
  have K2 := Lib.hid k2
  clear hb2 hs2 k2 HB K1 HS1
  go_wp2_with ((with_reducible refine wpList_load_rowAs rfl 42 _ rfl (w.heap.size) ?_ 42 #[.int .i64 p.mn, .int .i64 p.mx, .int .i64 p.tg, .int .i64 p.tl, .int .i64 p.wi, .int .i64 p.ho] (0, 0) _ 6 ?_ Try.underlying42 rfl (by kernel_rfl) ?_ ?_); exact rfl; exact K2.out; exact rfl)
  (with_reducible refine (H2.out _ HS2.out).mono ?_)
  rintro e w3 ⟨rfl, hb3⟩
  have HB3 := Lib.hid (HB2.out.trans (hb3.mono HB2.out.size))
  clear hb3
  have d1 : decide (want ≤ m) = true := decide_eq_true sp1
  by_cases hm : want < m
  · have hf := SP2.out
    rw [decide_eq_true hm] at hf
    subst hf
    have d2 : decide (want < m) = true := decide_eq_true hm
    go_wp2
    go_ret
    exact ⟨ret_bool (by simp), HB3.out⟩
  · have hf := SP2.out
    rw [decide_eq_false hm] at hf
    subst hf
    have d2 : decide (want < m) = false := decide_eq_false hm
    go_wp2
    go_ret
    exact ⟨ret_bool (by simp), HB3.out⟩

set_option maxHeartbeats 4000000 in
set_option maxRecDepth 100000 in
theorem steadyTells_walk (q : Option Addr) (cap : Nat) (l : List Adv) (m : Int) (hb : l.length ≤ 9223372036854775807) (w : World) (hs : Advs w q l) :
    Calls Try.prog 13 #[.slice q l.length cap, .int .i64 m] w fun e w' => e = .returned (.bool true) ∧ Below w.heap.size w w' := by
  by_cases h100 : 100 < l.length
  · obtain ⟨n, hn⟩ : ∃ n, n = l.length := ⟨_, rfl⟩
    rw [← hn] at hb h100 ⊢
    clear hn hs
    go_enter Try.func13, Try.ntmps13
    go_wp2_with fail
    (with_reducible refine (awake15 _).mono ?_)
    rintro e w1 ⟨rfl, hb1⟩
    have HB := Lib.hid hb1
    clear hb1
    go_wp2
    go_ret
    exact ⟨rfl, HB.out⟩
  have h1 := fun W : World => fun h : Advs W q l => steady_turns q cap l (by omega) W h
  have h2 := fun W : World => fun h : Advs W q l => history_changes q cap l (by omega) W h
  have h3 := fun W : World => fun h : Advs W q l => steady_streak q cap l (by omega) W h
  have h4 := fun W : World => fun h : Advs W q l => steady_settled q cap l m (by omega) W h
  have h5 := fun W : World => fun h : Advs W q l => ref15_turns q cap l (by omega) W h
  have htc := Adv.turns_changes (Adv.rep l) l.length
  have hdef : Adv.settled l m = decide (0 < l.length ∧ m ≤ (Adv.streak (Adv.rep l) l.length l.length 0 : Nat)) := rfl
  obtain ⟨bset, ebs⟩ : ∃ b, b = Adv.settled l m := ⟨_, rfl⟩
  simp only [← ebs] at h4
  rw [← ebs] at hdef
  have HR := Lib.hid (fun k (hk : k < l.length) => hs.rep k hk)
  obtain ⟨n, hn⟩ : ∃ n, n = l.length := ⟨_, rfl⟩
  have HN := Lib.hid hn
  rw [← hn] at htc hdef hb h100
  simp only [← hn] at h1 h2 h3 h4 h5 ⊢
  obtain ⟨g, hg⟩ : ∃ g, g = Adv.rep l := ⟨_, rfl⟩
  rw [← hg] at HR htc hdef
  simp only [← hg] at h1 h2 h3 h5
  have HG : Hid (Adv.streak g n (n - 0) 0 = Adv.streak g n n 0) := rfl
  obtain ⟨s, es⟩ : ∃ s, s = Adv.streak g n n 0 := ⟨_, rfl⟩
  rw [← es] at hdef HG
  simp only [← es] at h3
  obtain ⟨t, et⟩ : ∃ t, t = (Adv.turns g n).1 := ⟨_, rfl⟩
  obtain ⟨c, ec⟩ : ∃ t, t = Adv.changes g n := ⟨_, rfl⟩
  rw [← et, ← ec] at htc
  simp only [← et] at h1 h5
  simp only [← ec] at h2
  have htc2 : t = 0 ∧ c = 0 ∨ t < c := by rcases htc with h | h; exact .inl ⟨h.2.1, h.2.2⟩; exact .inr (by omega)
  have HTC := Lib.hid htc2
  have HDEF := Lib.hid hdef
  have H1 := Lib.hid h1
  have H2 := Lib.hid h2
  have H3 := Lib.hid h3
  have H4 := Lib.hid h4
  have H5 := Lib.hid h5
  have HS := Lib.hid hs
  clear hn hs h1 h2 h3 h4 h5 htc htc2 hdef ebs hg es et ec
  go_enter Try.func13, Try.ntmps13
  go_wp2_with fail
  (with_reducible refine (awake15 _).mono ?_)
  rintro e w1 ⟨rfl, hb1⟩
  have HB := Lib.hid hb1
  clear hb1
  go_wp2
  go_loopw [5, 6] (fun v i wr => ∃ k : Nat, k ≤ n ∧ v = .int .i64 k ∧ i = .int .i64 ((n : Int) - 1 - k) ∧ Adv.streak g n (n - k) k = s ∧ Below w.heap.size w wr) (fun v _ _ => n - (intOf v).toNat)
  case atStart => exact ⟨0, by omega, rfl, int_eq (by omega), HG.out, HB.out⟩
  case round =>
    obtain ⟨k, hk, rfl, rfl, hr, hB⟩ := hrel
    have HB := Lib.hid hB
    clear hB
    by_cases hlt : k < n
    · obtain ⟨b, off, rfl, hbw, hc⟩ := HR.out 0 (by have := HN.out; omega)
      have c1 := hc (n - 1 - k) (by have := HN.out; omega)
      have c2 := hc (n - 1) (by have := HN.out; omega)
      rw [← HB.out.cell (p := ⟨b, _, none⟩) hbw] at c1 c2
      have hst := Adv.streak_stop (g := g) (n := n) (f := n - k) (k := k)
      have hmo := Adv.streak_more (g := g) (n := n) (f := n - (k + 1)) (k := k)
      rw [show n - (k + 1) + 1 = n - k by omega] at hmo
      rw [hr] at hst hmo
      obtain ⟨N, rfl⟩ : ∃ N, n = N + 1 := ⟨n - 1, by omega⟩
      rw [Nat.add_sub_cancel] at c1 c2 hst hmo
      obtain ⟨x, ex⟩ : ∃ x, x = g (N - k) := ⟨_, rfl⟩
      obtain ⟨y, ey⟩ : ∃ x, x = g N := ⟨_, rfl⟩
      rw [← ex] at c1 hst hmo
      rw [← ey] at c2 hst hmo
      obtain ⟨j, hj⟩ : ∃ j, N - k = j := ⟨_, rfl⟩
      rw [hj] at c1
      have i1 : (0 : Int) ≤ j := by omega
      have i2 : (j : Int) ≤ N := by omega
      rw [show (((N + 1 : Nat) : Int) - 1 - k) = j by omega]
      have HJ := Lib.hid hj
      clear hc ex ey hr hj
      by_cases hxy : x = y
      · subst hxy
        have HE := Lib.hid (hmo ⟨hlt, rfl⟩)
        clear hst hmo
        go_wp2
        go_quiet (fail)
        go_wp2
        exact ⟨⟨k + 1, by omega, by go_num, int_eq (by have := HJ.out; omega), HE.out.symm, below_drewN HB.out _⟩, by simp [intOf]; omega⟩
      · have HE := Lib.hid (hst (fun h => hxy h.2))
        have hnb : (x == y) = false := beq_eq_false_iff_ne.2 hxy
        clear hst hmo
        go_wp2
        go_quiet (fail)
        have HBQ := Lib.hid (below_drewN HB.out nq)
        clear HB
        have HB := HBQ
        clear HBQ
        have hsk := HE.out.symm
        subst hsk
        clear HE
        have hset := HDEF.out
        rcases HTC.out with ⟨ht0, hc0⟩ | htc
        · subst ht0 hc0
          clear HTC
          by_cases hms : 0 < (N + 1) ∧ m ≤ (k : Int)
          · rw [decide_eq_true hms] at hset
            subst hset
            obtain ⟨hm1, hm2⟩ := hms
            have d5 : decide ((0 : Int) < (N : Int) + 1) = true := decide_eq_true (by omega)
            have d6 : decide (m ≤ (k : Int)) = true := decide_eq_true hm2
            go_wp2_with fail
            (with_reducible refine (H1.out _ (HS.out.below HB.out)).mono ?_)
            rintro e w2 ⟨rfl, hbx⟩
            have HBX := Lib.hid (HB.out.trans (hbx.mono HB.out.size))
            clear hbx HB
            have HB := HBX
            clear HBX
            go_wp2_with fail
            (with_reducible refine (H2.out _ (HS.out.below HB.out)).mono ?_)
            rintro e w3 ⟨rfl, hbx⟩
            have HBX := Lib.hid (HB.out.trans (hbx.mono HB.out.size))
            clear hbx HB
            have HB := HBX
            clear HBX
            go_wp2_with fail
            (with_reducible refine (H3.out _ (HS.out.below HB.out)).mono ?_)
            rintro e w4 ⟨rfl, hbx⟩
            have HBX := Lib.hid (HB.out.trans (hbx.mono HB.out.size))
            clear hbx HB
            have HB := HBX
            clear HBX
            go_wp2_with fail
            (with_reducible refine (H4.out _ (HS.out.below HB.out)).mono ?_)
            rintro e w5 ⟨rfl, hbx⟩
            have HBX := Lib.hid (HB.out.trans (hbx.mono HB.out.size))
            clear hbx HB
            have HB := HBX
            clear HBX
            go_wp2_with fail
            (with_reducible refine (H5.out _ (HS.out.below HB.out)).mono ?_)
            rintro e w6 ⟨rfl, hbx⟩
            have HBX := Lib.hid (HB.out.trans (hbx.mono HB.out.size))
            clear hbx HB
            have HB := HBX
            clear HBX
            go_wp2
            go_ret
            exact ⟨rfl, HB.out⟩
          · rw [decide_eq_false hms] at hset
            subst hset
            by_cases hm1 : 0 < (N + 1)
            · have hm2 : (k : Int) < m := by omega
              have d6 : decide (m ≤ (k : Int)) = false := decide_eq_false (by omega)
              go_wp2_with fail
              (with_reducible refine (H1.out _ (HS.out.below HB.out)).mono ?_)
              rintro e w2 ⟨rfl, hbx⟩
              have HBX := Lib.hid (HB.out.trans (hbx.mono HB.out.size))
              clear hbx HB
              have HB := HBX
              clear HBX
              go_wp2_with fail
              (with_reducible refine (H2.out _ (HS.out.below HB.out)).mono ?_)
              rintro e w3 ⟨rfl, hbx⟩
              have HBX := Lib.hid (HB.out.trans (hbx.mono HB.out.size))
              clear hbx HB
              have HB := HBX
              clear HBX
              go_wp2_with fail
              (with_reducible refine (H3.out _ (HS.out.below HB.out)).mono ?_)
              rintro e w4 ⟨rfl, hbx⟩
              have HBX := Lib.hid (HB.out.trans (hbx.mono HB.out.size))
              clear hbx HB
              have HB := HBX
              clear HBX
              go_wp2_with fail
              (with_reducible refine (H4.out _ (HS.out.below HB.out)).mono ?_)
              rintro e w5 ⟨rfl, hbx⟩
              have HBX := Lib.hid (HB.out.trans (hbx.mono HB.out.size))
              clear hbx HB
              have HB := HBX
              clear HBX
              go_wp2_with fail
              (with_reducible refine (H5.out _ (HS.out.below HB.out)).mono ?_)
              rintro e w6 ⟨rfl, hbx⟩
              have HBX := Lib.hid (HB.out.trans (hbx.mono HB.out.size))
              clear hbx HB
              have HB := HBX
              clear HBX
              go_wp2
              go_ret
              exact ⟨rfl, HB.out⟩
            · omega
        · have dc : ((c : Int) == 0) = false := beq_eq_false_iff_ne.2 (by omega)
          have dt : decide ((t : Int) < c) = true := decide_eq_true (by omega)
          clear HTC
          by_cases hms : 0 < (N + 1) ∧ m ≤ (k : Int)
          · rw [decide_eq_true hms] at hset
            subst hset
            obtain ⟨hm1, hm2⟩ := hms
            have d5 : decide ((0 : Int) < (N : Int) + 1) = true := decide_eq_true (by omega)
            have d6 : decide (m ≤ (k : Int)) = true := decide_eq_true hm2
            go_wp2_with fail
            (with_reducible refine (H1.out _ (HS.out.below HB.out)).mono ?_)
            rintro e w2 ⟨rfl, hbx⟩
            have HBX := Lib.hid (HB.out.trans (hbx.mono HB.out.size))
            clear hbx HB
            have HB := HBX
            clear HBX
            go_wp2_with fail
            (with_reducible refine (H2.out _ (HS.out.below HB.out)).mono ?_)
            rintro e w3 ⟨rfl, hbx⟩
            have HBX := Lib.hid (HB.out.trans (hbx.mono HB.out.size))
            clear hbx HB
            have HB := HBX
            clear HBX
            go_wp2_with fail
            (with_reducible refine (H3.out _ (HS.out.below HB.out)).mono ?_)
            rintro e w4 ⟨rfl, hbx⟩
            have HBX := Lib.hid (HB.out.trans (hbx.mono HB.out.size))
            clear hbx HB
            have HB := HBX
            clear HBX
            go_wp2_with fail
            (with_reducible refine (H4.out _ (HS.out.below HB.out)).mono ?_)
            rintro e w5 ⟨rfl, hbx⟩
            have HBX := Lib.hid (HB.out.trans (hbx.mono HB.out.size))
            clear hbx HB
            have HB := HBX
            clear HBX
            go_wp2_with fail
            (with_reducible refine (H5.out _ (HS.out.below HB.out)).mono ?_)
            rintro e w6 ⟨rfl, hbx⟩
            have HBX := Lib.hid (HB.out.trans (hbx.mono HB.out.size))
            clear hbx HB
            have HB := HBX
            clear HBX
            go_wp2
            go_ret
            exact ⟨rfl, HB.out⟩
          · rw [decide_eq_false hms] at hset
            subst hset
            by_cases hm1 : 0 < (N + 1)
            · have hm2 : (k : Int) < m := by omega
              have d6 : decide (m ≤ (k : Int)) = false := decide_eq_false (by omega)
              go_wp2_with fail
              (with_reducible refine (H1.out _ (HS.out.below HB.out)).mono ?_)
              rintro e w2 ⟨rfl, hbx⟩
              have HBX := Lib.hid (HB.out.trans (hbx.mono HB.out.size))
              clear hbx HB
              have HB := HBX
              clear HBX
              go_wp2_with fail
              (with_reducible refine (H2.out _ (HS.out.below HB.out)).mono ?_)
              rintro e w3 ⟨rfl, hbx⟩
              have HBX := Lib.hid (HB.out.trans (hbx.mono HB.out.size))
              clear hbx HB
              have HB := HBX
              clear HBX
              go_wp2_with fail
              (with_reducible refine (H3.out _ (HS.out.below HB.out)).mono ?_)
              rintro e w4 ⟨rfl, hbx⟩
              have HBX := Lib.hid (HB.out.trans (hbx.mono HB.out.size))
              clear hbx HB
              have HB := HBX
              clear HBX
              go_wp2_with fail
              (with_reducible refine (H4.out _ (HS.out.below HB.out)).mono ?_)
              rintro e w5 ⟨rfl, hbx⟩
              have HBX := Lib.hid (HB.out.trans (hbx.mono HB.out.size))
              clear hbx HB
              have HB := HBX
              clear HBX
              go_wp2_with fail
              (with_reducible refine (H5.out _ (HS.out.below HB.out)).mono ?_)
              rintro e w6 ⟨rfl, hbx⟩
              have HBX := Lib.hid (HB.out.trans (hbx.mono HB.out.size))
              clear hbx HB
              have HB := HBX
              clear HBX
              go_wp2
              go_ret
              exact ⟨rfl, HB.out⟩
            · omega
    · obtain rfl : k = n := by omega
      have HE := Lib.hid (Adv.streak_stop (g := g) (n := k) (f := k - k) (k := k) (fun h => hlt h.1))
      rw [hr] at HE
      have d1 : decide ((0 : Int) ≤ (k : Int) - 1 - k) = false := decide_eq_false (by omega)
      have d2 : decide ((k : Int) ≤ (k : Int) - 1) = false := decide_eq_false (by omega)
      clear hr
      go_wp2
      go_quiet (fail)
      have HBQ := Lib.hid (below_drewN HB.out nq)
      clear HB
      have HB := HBQ
      clear HBQ
      have hsk := HE.out.symm
      subst hsk
      clear HE
      have hset := HDEF.out
      rcases HTC.out with ⟨ht0, hc0⟩ | htc
      · subst ht0 hc0
        clear HTC
        by_cases hms : 0 < k ∧ m ≤ (k : Int)
        · rw [decide_eq_true hms] at hset
          subst hset
          obtain ⟨hm1, hm2⟩ := hms
          have d5 : decide ((0 : Int) < k) = true := decide_eq_true (by omega)
          have d6 : decide (m ≤ (k : Int)) = true := decide_eq_true hm2
          go_wp2_with fail
          (with_reducible refine (H1.out _ (HS.out.below HB.out)).mono ?_)
          rintro e w2 ⟨rfl, hbx⟩
          have HBX := Lib.hid (HB.out.trans (hbx.mono HB.out.size))
          clear hbx HB
          have HB := HBX
          clear HBX
          go_wp2_with fail
          (with_reducible refine (H2.out _ (HS.out.below HB.out)).mono ?_)
          rintro e w3 ⟨rfl, hbx⟩
          have HBX := Lib.hid (HB.out.trans (hbx.mono HB.out.size))
          clear hbx HB
          have HB := HBX
          clear HBX
          go_wp2_with fail
          (with_reducible refine (H3.out _ (HS.out.below HB.out)).mono ?_)
          rintro e w4 ⟨rfl, hbx⟩
          have HBX := Lib.hid (HB.out.trans (hbx.mono HB.out.size))
          clear hbx HB
          have HB := HBX
          clear HBX
          go_wp2_with fail
          (with_reducible refine (H4.out _ (HS.out.below HB.out)).mono ?_)
          rintro e w5 ⟨rfl, hbx⟩
          have HBX := Lib.hid (HB.out.trans (hbx.mono HB.out.size))
          clear hbx HB
          have HB := HBX
          clear HBX
          go_wp2_with fail
          (with_reducible refine (H5.out _ (HS.out.below HB.out)).mono ?_)
          rintro e w6 ⟨rfl, hbx⟩
          have HBX := Lib.hid (HB.out.trans (hbx.mono HB.out.size))
          clear hbx HB
          have HB := HBX
          clear HBX
          go_wp2
          go_ret
          exact ⟨rfl, HB.out⟩
        · rw [decide_eq_false hms] at hset
          subst hset
          by_cases hm1 : 0 < k
          · have hm2 : (k : Int) < m := by omega
            have d6 : decide (m ≤ (k : Int)) = false := decide_eq_false (by omega)
            go_wp2_with fail
            (with_reducible refine (H1.out _ (HS.out.below HB.out)).mono ?_)
            rintro e w2 ⟨rfl, hbx⟩
            have HBX := Lib.hid (HB.out.trans (hbx.mono HB.out.size))
            clear hbx HB
            have HB := HBX
            clear HBX
            go_wp2_with fail
            (with_reducible refine (H2.out _ (HS.out.below HB.out)).mono ?_)
            rintro e w3 ⟨rfl, hbx⟩
            have HBX := Lib.hid (HB.out.trans (hbx.mono HB.out.size))
            clear hbx HB
            have HB := HBX
            clear HBX
            go_wp2_with fail
            (with_reducible refine (H3.out _ (HS.out.below HB.out)).mono ?_)
            rintro e w4 ⟨rfl, hbx⟩
            have HBX := Lib.hid (HB.out.trans (hbx.mono HB.out.size))
            clear hbx HB
            have HB := HBX
            clear HBX
            go_wp2_with fail
            (with_reducible refine (H4.out _ (HS.out.below HB.out)).mono ?_)
            rintro e w5 ⟨rfl, hbx⟩
            have HBX := Lib.hid (HB.out.trans (hbx.mono HB.out.size))
            clear hbx HB
            have HB := HBX
            clear HBX
            go_wp2_with fail
            (with_reducible refine (H5.out _ (HS.out.below HB.out)).mono ?_)
            rintro e w6 ⟨rfl, hbx⟩
            have HBX := Lib.hid (HB.out.trans (hbx.mono HB.out.size))
            clear hbx HB
            have HB := HBX
            clear HBX
            go_wp2
            go_ret
            exact ⟨rfl, HB.out⟩
          · have d5 : decide ((0 : Int) < k) = false := decide_eq_false (by omega)
            go_wp2_with fail
            (with_reducible refine (H1.out _ (HS.out.below HB.out)).mono ?_)
            rintro e w2 ⟨rfl, hbx⟩
            have HBX := Lib.hid (HB.out.trans (hbx.mono HB.out.size))
            clear hbx HB
            have HB := HBX
            clear HBX
            go_wp2_with fail
            (with_reducible refine (H2.out _ (HS.out.below HB.out)).mono ?_)
            rintro e w3 ⟨rfl, hbx⟩
            have HBX := Lib.hid (HB.out.trans (hbx.mono HB.out.size))
            clear hbx HB
            have HB := HBX
            clear HBX
            go_wp2_with fail
            (with_reducible refine (H3.out _ (HS.out.below HB.out)).mono ?_)
            rintro e w4 ⟨rfl, hbx⟩
            have HBX := Lib.hid (HB.out.trans (hbx.mono HB.out.size))
            clear hbx HB
            have HB := HBX
            clear HBX
            go_wp2_with fail
            (with_reducible refine (H4.out _ (HS.out.below HB.out)).mono ?_)
            rintro e w5 ⟨rfl, hbx⟩
            have HBX := Lib.hid (HB.out.trans (hbx.mono HB.out.size))
            clear hbx HB
            have HB := HBX
            clear HBX
            go_wp2_with fail
            (with_reducible refine (H5.out _ (HS.out.below HB.out)).mono ?_)
            rintro e w6 ⟨rfl, hbx⟩
            have HBX := Lib.hid (HB.out.trans (hbx.mono HB.out.size))
            clear hbx HB
            have HB := HBX
            clear HBX
            go_wp2
            go_ret
            exact ⟨rfl, HB.out⟩
      · have dc : ((c : Int) == 0) = false := beq_eq_false_iff_ne.2 (by omega)
        have dt : decide ((t : Int) < c) = true := decide_eq_true (by omega)
        clear HTC
        by_cases hms : 0 < k ∧ m ≤ (k : Int)
        · rw [decide_eq_true hms] at hset
          subst hset
          obtain ⟨hm1, hm2⟩ := hms
          have d5 : decide ((0 : Int) < k) = true := decide_eq_true (by omega)
          have d6 : decide (m ≤ (k : Int)) = true := decide_eq_true hm2
          go_wp2_with fail
          (with_reducible refine (H1.out _ (HS.out.below HB.out)).mono ?_)
          rintro e w2 ⟨rfl, hbx⟩
          have HBX := Lib.hid (HB.out.trans (hbx.mono HB.out.size))
          clear hbx HB
          have HB := HBX
          clear HBX
          go_wp2_with fail
          (with_reducible refine (H2.out _ (HS.out.below HB.out)).mono ?_)
          rintro e w3 ⟨rfl, hbx⟩
          have HBX := Lib.hid (HB.out.trans (hbx.mono HB.out.size))
          clear hbx HB
          have HB := HBX
          clear HBX
          go_wp2_with fail
          (with_reducible refine (H3.out _ (HS.out.below HB.out)).mono ?_)
          rintro e w4 ⟨rfl, hbx⟩
          have HBX := Lib.hid (HB.out.trans (hbx.mono HB.out.size))
          clear hbx HB
          have HB := HBX
          clear HBX
          go_wp2_with fail
          (with_reducible refine (H4.out _ (HS.out.below HB.out)).mono ?_)
          rintro e w5 ⟨rfl, hbx⟩
          have HBX := Lib.hid (HB.out.trans (hbx.mono HB.out.size))
          clear hbx HB
          have HB := HBX
          clear HBX
          go_wp2_with fail
          (with_reducible refine (H5.out _ (HS.out.below HB.out)).mono ?_)
          rintro e w6 ⟨rfl, hbx⟩
          have HBX := Lib.hid (HB.out.trans (hbx.mono HB.out.size))
          clear hbx HB
          have HB := HBX
          clear HBX
          go_wp2
          go_ret
          exact ⟨rfl, HB.out⟩
        · rw [decide_eq_false hms] at hset
          subst hset
          by_cases hm1 : 0 < k
          · have hm2 : (k : Int) < m := by omega
            have d6 : decide (m ≤ (k : Int)) = false := decide_eq_false (by omega)
            go_wp2_with fail
            (with_reducible refine (H1.out _ (HS.out.below HB.out)).mono ?_)
            rintro e w2 ⟨rfl, hbx⟩
            have HBX := Lib.hid (HB.out.trans (hbx.mono HB.out.size))
            clear hbx HB
            have HB := HBX
            clear HBX
            go_wp2_with fail
            (with_reducible refine (H2.out _ (HS.out.below HB.out)).mono ?_)
            rintro e w3 ⟨rfl, hbx⟩
            have HBX := Lib.hid (HB.out.trans (hbx.mono HB.out.size))
            clear hbx HB
            have HB := HBX
            clear HBX
            go_wp2_with fail
            (with_reducible refine (H3.out _ (HS.out.below HB.out)).mono ?_)
            rintro e w4 ⟨rfl, hbx⟩
            have HBX := Lib.hid (HB.out.trans (hbx.mono HB.out.size))
            clear hbx HB
            have HB := HBX
            clear HBX
            go_wp2_with fail
            (with_reducible refine (H4.out _ (HS.out.below HB.out)).mono ?_)
            rintro e w5 ⟨rfl, hbx⟩
            have HBX := Lib.hid (HB.out.trans (hbx.mono HB.out.size))
            clear hbx HB
            have HB := HBX
            clear HBX
            go_wp2_with fail
            (with_reducible refine (H5.out _ (HS.out.below HB.out)).mono ?_)
            rintro e w6 ⟨rfl, hbx⟩
            have HBX := Lib.hid (HB.out.trans (hbx.mono HB.out.size))
            clear hbx HB
            have HB := HBX
            clear HBX
            go_wp2
            go_ret
            exact ⟨rfl, HB.out⟩
          · have d5 : decide ((0 : Int) < k) = false := decide_eq_false (by omega)
            go_wp2_with fail
            (with_reducible refine (H1.out _ (HS.out.below HB.out)).mono ?_)
            rintro e w2 ⟨rfl, hbx⟩
            have HBX := Lib.hid (HB.out.trans (hbx.mono HB.out.size))
            clear hbx HB
            have HB := HBX
            clear HBX
            go_wp2_with fail
            (with_reducible refine (H2.out _ (HS.out.below HB.out)).mono ?_)
            rintro e w3 ⟨rfl, hbx⟩
            have HBX := Lib.hid (HB.out.trans (hbx.mono HB.out.size))
            clear hbx HB
            have HB := HBX
            clear HBX
            go_wp2_with fail
            (with_reducible refine (H3.out _ (HS.out.below HB.out)).mono ?_)
            rintro e w4 ⟨rfl, hbx⟩
            have HBX := Lib.hid (HB.out.trans (hbx.mono HB.out.size))
            clear hbx HB
            have HB := HBX
            clear HBX
            go_wp2_with fail
            (with_reducible refine (H4.out _ (HS.out.below HB.out)).mono ?_)
            rintro e w5 ⟨rfl, hbx⟩
            have HBX := Lib.hid (HB.out.trans (hbx.mono HB.out.size))
            clear hbx HB
            have HB := HBX
            clear HBX
            go_wp2_with fail
            (with_reducible refine (H5.out _ (HS.out.below HB.out)).mono ?_)
            rintro e w6 ⟨rfl, hbx⟩
            have HBX := Lib.hid (HB.out.trans (hbx.mono HB.out.size))
            clear hbx HB
            have HB := HBX
            clear HBX
            go_wp2
            go_ret
            exact ⟨rfl, HB.out⟩
end Go.Proofs.Ytdchooggindihaa
