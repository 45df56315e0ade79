/- Layer 44, two texts in one (XOpenRes, XTri7): the law on which of two results is better. -/
import Derived.Test.YtcinfpgpldmkaaaTriOrd
namespace Go.Proofs.Ytcinfpgpldmkaaa
open Go.ChangeShapes Go.WideShapes Go.ChangeAt Go.RowKit
section
open Go.Deep

section
variable {H : Type} {enc : TypeId × Value → H} {P : Program} {w : World} {base : Nat} {sp : Nat → Bool} {hd : Bool}
theorem res_cells {t e : TypeId} {fs : Array Field} {fuel : Nat} {cs : List Value} {x : DataW H × List MemPlace} (hs : P.underlying t = some (.struct fs)) (hone : oneCellFields P fs = true) (hC : P.cellsOf t = fs.size)
    (hk : (fs.toList.map fun f => P.underlying f.type) = [some (.slice e), some (.int .i64), some (.int .i64), some (.int .i64), some (.int .i64), some (.int .i64), some (.int .i64)]) (h : DataW.trod enc P w base sp hd fuel t cs = some x) :
    ∃ (p : Option Addr) (n c : Nat) (C T a b y z : Int), cs = [.slice p n c, .int .i64 C, .int .i64 T, .int .i64 a, .int .i64 b, .int .i64 y, .int .i64 z] := by
  have hsz : fs.size = 7 := by
    have := congrArg List.length hk
    simpa using this
  obtain ⟨xs, n, _, rfl, hl, hlen, hf⟩ := DataW.trod_struct hs h
  have hcl : cs.length = 7 := (hl.trans hC).trans hsz
  have one : ∀ j (hj : j < fs.size), DataW.trod enc P w base sp hd n fs[j].type [cs[j]'(by omega)] = some (xs[j]'(by omega)) := by
    intro j hj
    have hfj : fs[j]? = some fs[j] := Array.getElem?_eq_getElem hj
    obtain ⟨ho, h1⟩ := hone_of hone j _ hfj
    have hg := hf j _ hfj
    have hxs : xs[j]? = some (xs[j]'(by omega)) := List.getElem?_eq_getElem (by omega)
    rw [ho, h1, List.drop_eq_getElem_cons (by omega), hxs] at hg
    rw [List.take_succ_cons, List.take_zero] at hg
    exact hg
  have ty : ∀ j (hj : j < fs.size), some (P.underlying fs[j].type) = ([some (.slice e), some (.int .i64), some (.int .i64), some (.int .i64), some (.int .i64), some (.int .i64), some (.int .i64)] : List (Option TypeDesc))[j]? := by
    intro j hj
    have := congrArg (fun l : List (Option TypeDesc) => l[j]?) hk
    simpa [hj] using this
  have int : ∀ j (hj : j < fs.size), P.underlying fs[j].type = some (.int .i64) → ∃ a, cs[j]'(by omega) = .int .i64 a := by
    intro j hj hkj
    obtain ⟨a, e1, _, _⟩ := DataW.trod_int hkj (one j hj)
    exact ⟨a, by simpa using e1⟩
  have h0 : ∃ (p : Option Addr) (n c : Nat), cs[0]'(by omega) = .slice p n c := by
    have ht := ty 0 (by omega)
    simp only [List.getElem?_cons_zero, Option.some.injEq] at ht
    rcases open_slice ht (one 0 (by omega)) with ⟨hcs, _⟩ | ⟨a, len, cap, _, _, _, _, hcs, _⟩
    · exact ⟨_, _, _, by simpa using hcs⟩
    · exact ⟨_, _, _, by simpa using hcs⟩
  obtain ⟨p, k, c, e0⟩ := h0
  obtain ⟨C, e1⟩ := int 1 (by omega) (by have := ty 1 (by omega); simpa using this)
  obtain ⟨T, e2⟩ := int 2 (by omega) (by have := ty 2 (by omega); simpa using this)
  obtain ⟨a, e3⟩ := int 3 (by omega) (by have := ty 3 (by omega); simpa using this)
  obtain ⟨b, e4⟩ := int 4 (by omega) (by have := ty 4 (by omega); simpa using this)
  obtain ⟨y, e5⟩ := int 5 (by omega) (by have := ty 5 (by omega); simpa using this)
  obtain ⟨z, e6⟩ := int 6 (by omega) (by have := ty 6 (by omega); simpa using this)
  refine ⟨p, k, c, C, T, a, b, y, z, ?_⟩
  have q : ∀ (j : Nat) (hj : j < cs.length) (v : Value), cs[j] = v → cs[j]? = some v := fun j hj v e => by rw [List.getElem?_eq_getElem hj, e]
  have z0 := q 0 (by omega) _ e0
  have z1 := q 1 (by omega) _ e1
  have z2 := q 2 (by omega) _ e2
  have z3 := q 3 (by omega) _ e3
  have z4 := q 4 (by omega) _ e4
  have z5 := q 5 (by omega) _ e5
  have z6 := q 6 (by omega) _ e6
  apply List.ext_getElem?
  intro i
  match i with
  | 0 => exact z0
  | 1 => exact z1
  | 2 => exact z2
  | 3 => exact z3
  | 4 => exact z4
  | 5 => exact z5
  | 6 => exact z6
  | i + 7 => rw [List.getElem?_eq_none (by omega)]; rfl
theorem open_res {r : Reach} {b0 : Nat} {t e : TypeId} {fs : Array Field} {v : Value} {d : DataW H} {ps : List MemPlace} (hs : P.underlying t = some (.struct fs)) (hone : oneCellFields P fs = true) (hC : P.cellsOf t = fs.size)
    (hk : (fs.toList.map fun f => P.underlying f.type) = [some (.slice e), some (.int .i64), some (.int .i64), some (.int .i64), some (.int .i64), some (.int .i64), some (.int .i64)]) (hv : Value.okWide P w r b0 t v) (h : DataW.Trod enc P w base sp hd t v d ps) :
    ∃ (p : Option Addr) (n c : Nat) (C T a b y z : Int), v = .agg #[.slice p n c, .int .i64 C, .int .i64 T, .int .i64 a, .int .i64 b, .int .i64 y, .int .i64 z] := by
  obtain ⟨cs, rfl, hsz⟩ := okWide_struct hs hv
  obtain ⟨fuel, hf⟩ := h
  obtain ⟨p, n, c, C, T, a, b, y, z, h2⟩ := res_cells hs hone hC hk hf
  refine ⟨p, n, c, C, T, a, b, y, z, ?_⟩
  have h3 : cs.toList = [.slice p n c, .int .i64 C, .int .i64 T, .int .i64 a, .int .i64 b, .int .i64 y, .int .i64 z] := by simpa [Value.cells] using h2
  rw [show cs = cs.toList.toArray by simp, h3]
end
end

theorem resSize : (Try.prog.info? 62).map (·.size) = some 7 := by kernel_rfl
section
variable {P : Program} {ops : Array Oper} {Q : Exit → Act → World → Prop} {md : Region.Mode} {S S' : World → Prop} {js : List Nat}
/-- Three are ready, each of a kind whose value hangs on when it is done: all ways. -/
theorem wpAnyE_three (i j k : Nat) {oi oj ok : Oper} {ti tj tk : List Oper} {fuel : Nat} {listed : Array Bool} {a : Act} (hi' : ops.toList.drop i = oi :: ti) (hj' : ops.toList.drop j = oj :: tj) (hk' : ops.toList.drop k = ok :: tk)
    (hr : (Region.ready md ops listed == [i, j, k]) = true) (hwi : Region.wanted oi (yielded ops a.tmps) = true) (hwj : Region.wanted oj (yielded ops a.tmps) = true) (hwk : Region.wanted ok (yielded ops a.tmps) = true)
    (h1 : ∀ w, S w → oi.wp P a w (fun a' w' => ∃ S', S' w' ∧ Stab S' ∧ (i ∈ js ∨ ∀ w, S' w → S w) ∧ wpAnyE P md ops Q js fuel (listed.setIfInBounds i true) a' S') Q)
    (h2 : ∀ w, S w → oj.wp P a w (fun a' w' => ∃ S', S' w' ∧ Stab S' ∧ (j ∈ js ∨ ∀ w, S' w → S w) ∧ wpAnyE P md ops Q js fuel (listed.setIfInBounds j true) a' S') Q)
    (h3 : ∀ w, S w → ok.wp P a w (fun a' w' => ∃ S', S' w' ∧ Stab S' ∧ (k ∈ js ∨ ∀ w, S' w → S w) ∧ wpAnyE P md ops Q js fuel (listed.setIfInBounds k true) a' S') Q) : wpAnyE P md ops Q js (fuel + 1) listed a S := by
  have hi : ops[i]? = some oi := by
    have := congrArg (·[0]?) hi'
    simpa using this
  have hj : ops[j]? = some oj := by
    have := congrArg (·[0]?) hj'
    simpa using this
  have hk : ops[k]? = some ok := by
    have := congrArg (·[0]?) hk'
    simpa using this
  simp only [beq_iff_eq] at hr
  refine ⟨fun h0 => (by rw [h0] at hr; cases hr), fun l hl w hS => ?_⟩
  rw [hr] at hl
  simp only [List.mem_cons, List.not_mem_nil, or_false] at hl
  rcases hl with rfl | rfl | rfl
  · unfold Go.wpOp
    simp only [hi, hwi, if_true]
    exact .inl (h1 w hS)
  · unfold Go.wpOp
    simp only [hj, hwj, if_true]
    exact .inl (h2 w hS)
  · unfold Go.wpOp
    simp only [hk, hwk, if_true]
    exact .inl (h3 w hS)
end

theorem Tri.cmp_anti (C T x y C2 T2 x2 y2 : Int) : Tri.cmp C T x y C2 T2 x2 y2 = -Tri.cmp C2 T2 x2 y2 C T x y := by
  unfold Tri.cmp Adv.sgn
  repeat' split
  all_goals omega
theorem Tri.cmp_self (C T x y : Int) : Tri.cmp C T x y C T x y = 0 := by
  unfold Tri.cmp Adv.sgn
  repeat' split
  all_goals omega
theorem Tri.cmp_bd (C T x y C2 T2 x2 y2 : Int) : -1 ≤ Tri.cmp C T x y C2 T2 x2 y2 ∧ Tri.cmp C T x y C2 T2 x2 y2 ≤ 1 := by
  unfold Tri.cmp Adv.sgn
  repeat' split
  all_goals omega
theorem Adv.sgn_le (a b : Int) : Adv.sgn a b ≤ 0 ↔ a ≤ b := by
  unfold Adv.sgn
  repeat' split
  all_goals omega
theorem Tri.cmp_le (C T x y C2 T2 x2 y2 : Int) : Tri.cmp C T x y C2 T2 x2 y2 ≤ 0 ↔ (y < y2 ∨ (y = y2 ∧ (x < x2 ∨ (x = x2 ∧ (C < C2 ∨ (C = C2 ∧ T ≤ T2)))))) := by
  unfold Tri.cmp
  split
  · rw [Adv.sgn_le]; omega
  · split
    · rw [Adv.sgn_le]; omega
    · split
      · rw [Adv.sgn_le]; omega
      · rw [Adv.sgn_le]; omega
theorem Tri.cmp_trans (C T x y C2 T2 x2 y2 C3 T3 x3 y3 : Int) (h : Tri.cmp C T x y C2 T2 x2 y2 ≤ 0) (h2 : Tri.cmp C2 T2 x2 y2 C3 T3 x3 y3 ≤ 0) : Tri.cmp C T x y C3 T3 x3 y3 ≤ 0 := by
  rw [Tri.cmp_le] at h h2 ⊢
  omega

theorem nones : ∀ i : Nat, ([none, none, none] : List (Option (Nat × Option (Array Value))))[i]? = some none ∨ ([none, none, none] : List (Option (Nat × Option (Array Value))))[i]? = none := by
  intro i
  match i with
  | 0 => exact .inl rfl
  | 1 => exact .inl rfl
  | 2 => exact .inl rfl
  | i + 3 => exact .inr rfl

set_option maxHeartbeats 8000000 in
set_option maxRecDepth 100000 in
theorem trialOrders_walk (p0 : Option Addr) (n0 c0 : Nat) (C0 T0 a0 b0 x0 y0 : Int) (p1 : Option Addr) (n1 c1 : Nat) (C1 T1 a1 b1 x1 y1 : Int) (p2 : Option Addr) (n2 c2 : Nat) (C2 T2 a2 b2 x2 y2 : Int) (w : World) :
    Calls Try.prog 10 #[.agg #[.slice p0 n0 c0, .int .i64 C0, .int .i64 T0, .int .i64 a0, .int .i64 b0, .int .i64 x0, .int .i64 y0], .agg #[.slice p1 n1 c1, .int .i64 C1, .int .i64 T1, .int .i64 a1, .int .i64 b1, .int .i64 x1, .int .i64 y1], .agg #[.slice p2 n2 c2, .int .i64 C2, .int .i64 T2, .int .i64 a2, .int .i64 b2, .int .i64 x2, .int .i64 y2]] w fun e w' => e = .returned (.bool true) ∧ Below w.heap.size w w' := by
  have hbs : ∀ (i bk : Nat) (ob : Obj), [(w.heap.size, Obj.cells #[.slice p0 n0 c0, .int .i64 C0, .int .i64 T0, .int .i64 a0, .int .i64 b0, .int .i64 x0, .int .i64 y0] 61), (w.heap.size + 1, .cells #[.slice p1 n1 c1, .int .i64 C1, .int .i64 T1, .int .i64 a1, .int .i64 b1, .int .i64 x1, .int .i64 y1] 61), (w.heap.size + 2, .cells #[.slice p2 n2 c2, .int .i64 C2, .int .i64 T2, .int .i64 a2, .int .i64 b2, .int .i64 x2, .int .i64 y2] 61)][i]? = some (bk, ob) → bk < w.heap.size + 3 := by
    intro i bk ob hi
    match i, hi with
    | 0, hi => simp at hi; omega
    | 1, hi => simp at hi; omega
    | 2, hi => simp at hi; omega
  have f01 := trial_cmp p0 p1 n0 c0 n1 c1 C0 T0 a0 b0 x0 y0 C1 T1 a1 b1 x1 y1
  have f10 := trial_cmp p1 p0 n1 c1 n0 c0 C1 T1 a1 b1 x1 y1 C0 T0 a0 b0 x0 y0
  have f00 := trial_cmp p0 p0 n0 c0 n0 c0 C0 T0 a0 b0 x0 y0 C0 T0 a0 b0 x0 y0
  have f12 := trial_cmp p1 p2 n1 c1 n2 c2 C1 T1 a1 b1 x1 y1 C2 T2 a2 b2 x2 y2
  have f02 := trial_cmp p0 p2 n0 c0 n2 c2 C0 T0 a0 b0 x0 y0 C2 T2 a2 b2 x2 y2
  have g01 := ref44_cmp p0 p1 n0 c0 n1 c1 C0 T0 a0 b0 x0 y0 C1 T1 a1 b1 x1 y1
  rw [Tri.cmp_self] at f00
  have han := Tri.cmp_anti C0 T0 x0 y0 C1 T1 x1 y1
  have hbd := Tri.cmp_bd C1 T1 x1 y1 C0 T0 x0 y0
  have htr := Tri.cmp_trans C0 T0 x0 y0 C1 T1 x1 y1 C2 T2 x2 y2
  obtain ⟨v01, e01⟩ : ∃ v, v = Tri.cmp C0 T0 x0 y0 C1 T1 x1 y1 := ⟨_, rfl⟩
  obtain ⟨v10, e10⟩ : ∃ v, v = Tri.cmp C1 T1 x1 y1 C0 T0 x0 y0 := ⟨_, rfl⟩
  obtain ⟨v12, e12⟩ : ∃ v, v = Tri.cmp C1 T1 x1 y1 C2 T2 x2 y2 := ⟨_, rfl⟩
  obtain ⟨v02, e02⟩ : ∃ v, v = Tri.cmp C0 T0 x0 y0 C2 T2 x2 y2 := ⟨_, rfl⟩
  simp only [← e01] at f01 g01 han htr
  simp only [← e10] at f10 han hbd
  simp only [← e12] at f12 htr
  simp only [← e02] at f02 htr
  have F01 := Lib.hid f01
  have F10 := Lib.hid f10
  have F00 := Lib.hid f00
  have F12 := Lib.hid f12
  have F02 := Lib.hid f02
  have G01 := Lib.hid g01
  have HN := Lib.hid han.symm
  have HT := Lib.hid htr
  have hb1 := hbd.1
  have hb2 := hbd.2
  clear f01 f10 f00 f12 f02 g01 han htr hbd e01 e10 e12 e02
  go_enter Try.func10, Try.ntmps10
  go_wp2_with fail
  (with_reducible refine (awake44 _).mono ?_)
  rintro e w1 ⟨rfl, hbw⟩
  have M1 := Lib.hid (((((Mem.start w).alloc (.cells #[.slice p0 n0 c0, .int .i64 C0, .int .i64 T0, .int .i64 a0, .int .i64 b0, .int .i64 x0, .int .i64 y0] 61)).allocAs (w.heap.size + 1) (.cells #[.slice p1 n1 c1, .int .i64 C1, .int .i64 T1, .int .i64 a1, .int .i64 b1, .int .i64 x1, .int .i64 y1] 61) (by simp)).allocAs (w.heap.size + 2) (.cells #[.slice p2 n2 c2, .int .i64 C2, .int .i64 T2, .int .i64 a2, .int .i64 b2, .int .i64 x2, .int .i64 y2] 61) (by simp)).call hbw)
  clear hbw
  go_upto_region 3 with fail
  go_cut [7, 8, 9] from 10 to 53 (fun s7 s8 s9 wx => ∃ X0 X1 X2, s7 = .pointer (some ⟨X0, 0, none⟩) ∧ s8 = .pointer (some ⟨X1, 0, none⟩) ∧ s9 = .pointer (some ⟨X2, 0, none⟩) ∧ Many w [(w.heap.size, .cells #[.slice p0 n0 c0, .int .i64 C0, .int .i64 T0, .int .i64 a0, .int .i64 b0, .int .i64 x0, .int .i64 y0] 61), (w.heap.size + 1, .cells #[.slice p1 n1 c1, .int .i64 C1, .int .i64 T1, .int .i64 a1, .int .i64 b1, .int .i64 x1, .int .i64 y1] 61), (w.heap.size + 2, .cells #[.slice p2 n2 c2, .int .i64 C2, .int .i64 T2, .int .i64 a2, .int .i64 b2, .int .i64 x2, .int .i64 y2] 61)] (w.heap.size + 3) 62 7 [some (X0, some #[.slice p0 n0 c0, .int .i64 C0, .int .i64 T0, .int .i64 a0, .int .i64 b0, .int .i64 x0, .int .i64 y0]), some (X1, some #[.slice p1 n1 c1, .int .i64 C1, .int .i64 T1, .int .i64 a1, .int .i64 b1, .int .i64 x1, .int .i64 y1]), some (X2, some #[.slice p2 n2 c2, .int .i64 C2, .int .i64 T2, .int .i64 a2, .int .i64 b2, .int .i64 x2, .int .i64 y2])] wx)
  case first =>
    refine wp_region_E mixed [] (S := Many w [(w.heap.size, .cells #[.slice p0 n0 c0, .int .i64 C0, .int .i64 T0, .int .i64 a0, .int .i64 b0, .int .i64 x0, .int .i64 y0] 61), (w.heap.size + 1, .cells #[.slice p1 n1 c1, .int .i64 C1, .int .i64 T1, .int .i64 a1, .int .i64 b1, .int .i64 x1, .int .i64 y1] 61), (w.heap.size + 2, .cells #[.slice p2 n2 c2, .int .i64 C2, .int .i64 T2, .int .i64 a2, .int .i64 b2, .int .i64 x2, .int .i64 y2] 61)] (w.heap.size + 3) 62 7 [none, none, none]) stab_many (Many.start (M1.out.drewN 1) (by have := M1.out.lt (i := 2) rfl; show _ ≤ _; simp only [World.drewN]; omega) nones) ?_
    have hst : Stab (Many w [(w.heap.size, .cells #[.slice p0 n0 c0, .int .i64 C0, .int .i64 T0, .int .i64 a0, .int .i64 b0, .int .i64 x0, .int .i64 y0] 61), (w.heap.size + 1, .cells #[.slice p1 n1 c1, .int .i64 C1, .int .i64 T1, .int .i64 a1, .int .i64 b1, .int .i64 x1, .int .i64 y1] 61), (w.heap.size + 2, .cells #[.slice p2 n2 c2, .int .i64 C2, .int .i64 T2, .int .i64 a2, .int .i64 b2, .int .i64 x2, .int .i64 y2] 61)] (w.heap.size + 3) 62 7 [none, none, none]) := stab_many
    refine wpAnyE_take 0 (v := .agg #[.slice p0 n0 c0, .int .i64 C0, .int .i64 T0, .int .i64 a0, .int .i64 b0, .int .i64 x0, .int .i64 y0]) rfl (by kernel_rfl) (by kernel_rfl) (by kernel_rfl) (fun _ _ _ h => h) hst (EffB.run rfl rfl (fun wd hS => ?_)) (.inl (by kernel_rfl)) ?_
    · exact wp_load_row 61 _ rfl ((w.heap.size)) rfl 61 #[.slice p0 n0 c0, .int .i64 C0, .int .i64 T0, .int .i64 a0, .int .i64 b0, .int .i64 x0, .int .i64 y0] (0, 0) _ (hS.mem.heap 0 rfl) Try.underlying61 rfl (by kernel_rfl) ⟨rfl, Below.refl _ _⟩
    simp only [act_norm]
    refine wpAnyE_take 1 (v := .agg #[.slice p1 n1 c1, .int .i64 C1, .int .i64 T1, .int .i64 a1, .int .i64 b1, .int .i64 x1, .int .i64 y1]) rfl (by kernel_rfl) (by kernel_rfl) (by kernel_rfl) (fun _ _ _ h => h) hst (EffB.run rfl rfl (fun wd hS => ?_)) (.inl (by kernel_rfl)) ?_
    · exact wp_load_row 61 _ rfl ((w.heap.size + 1)) rfl 61 #[.slice p1 n1 c1, .int .i64 C1, .int .i64 T1, .int .i64 a1, .int .i64 b1, .int .i64 x1, .int .i64 y1] (0, 0) _ (hS.mem.heap 1 rfl) Try.underlying61 rfl (by kernel_rfl) ⟨rfl, Below.refl _ _⟩
    simp only [act_norm]
    refine wpAnyE_take 2 (v := .agg #[.slice p2 n2 c2, .int .i64 C2, .int .i64 T2, .int .i64 a2, .int .i64 b2, .int .i64 x2, .int .i64 y2]) rfl (by kernel_rfl) (by kernel_rfl) (by kernel_rfl) (fun _ _ _ h => h) hst (EffB.run rfl rfl (fun wd hS => ?_)) (.inl (by kernel_rfl)) ?_
    · exact wp_load_row 61 _ rfl ((w.heap.size + 2)) rfl 61 #[.slice p2 n2 c2, .int .i64 C2, .int .i64 T2, .int .i64 a2, .int .i64 b2, .int .i64 x2, .int .i64 y2] (0, 0) _ (hS.mem.heap 2 rfl) Try.underlying61 rfl (by kernel_rfl) ⟨rfl, Below.refl _ _⟩
    simp only [act_norm]
    refine wpAnyE_three 3 4 5 rfl rfl rfl (by kernel_rfl) rfl rfl rfl (fun wd hS => ?_) (fun wd hS => ?_) (fun wd hS => ?_)
    · go_wp2
      refine ⟨_, hS.alloc 0 #[.slice none 0 0, .int .i64 0, .int .i64 0, .int .i64 0, .int .i64 0, .int .i64 0, .int .i64 0] rfl, stab_many, (by first | exact .inr fun _ h => h.less (.inl rfl) | exact fun _ h => h.less (.inl rfl)), ?_⟩
      try simp only [act_norm]
      obtain ⟨X0, hX⟩ : ∃ X, X = wd.heap.size := ⟨_, rfl⟩
      rw [← hX]
      clear hS hX
      refine wpAnyE_two 4 5 rfl rfl (by kernel_rfl) rfl rfl (fun wd hS => ?_) (fun wd hS => ?_)
      · go_wp2
        refine ⟨_, hS.alloc 1 #[.slice none 0 0, .int .i64 0, .int .i64 0, .int .i64 0, .int .i64 0, .int .i64 0, .int .i64 0] rfl, stab_many, (by first | exact .inr fun _ h => h.less (.inl rfl) | exact fun _ h => h.less (.inl rfl)), ?_⟩
        try simp only [act_norm]
        obtain ⟨X1, hX⟩ : ∃ X, X = wd.heap.size := ⟨_, rfl⟩
        rw [← hX]
        clear hS hX
        refine wpAnyE_one 5 rfl (by kernel_rfl) rfl (fun wd hS => ?_)
        go_wp2
        refine ⟨_, hS.alloc 2 #[.slice none 0 0, .int .i64 0, .int .i64 0, .int .i64 0, .int .i64 0, .int .i64 0, .int .i64 0] rfl, stab_many, (by first | exact .inr fun _ h => h.less (.inl rfl) | exact fun _ h => h.less (.inl rfl)), ?_⟩
        try simp only [act_norm]
        obtain ⟨X2, hX⟩ : ∃ X, X = wd.heap.size := ⟨_, rfl⟩
        rw [← hX]
        clear hS hX
        refine wpAnyE_one 6 rfl (by kernel_rfl) rfl (fun wd hS => ?_)
        obtain ⟨cs, kX, hz⟩ := hS.old 0 rfl
        refine wp_store_row 62 _ _ rfl X0 #[.slice p0 n0 c0, .int .i64 C0, .int .i64 T0, .int .i64 a0, .int .i64 b0, .int .i64 x0, .int .i64 y0] rfl rfl 62 cs kX resSize hz (by simp [Value.oneCell']) ?_
        refine ⟨_, hS.store hbs (by omega) 0 rfl #[.slice p0 n0 c0, .int .i64 C0, .int .i64 T0, .int .i64 a0, .int .i64 b0, .int .i64 x0, .int .i64 y0] rfl, stab_many, (by first | exact .inr fun _ h => h.less (.inr ⟨_, _, rfl, rfl⟩) | exact fun _ h => h.less (.inr ⟨_, _, rfl, rfl⟩)), ?_⟩
        try simp only [act_norm]
        clear hS kX hz cs
        refine wpAnyE_one 7 rfl (by kernel_rfl) rfl (fun wd hS => ?_)
        obtain ⟨cs, kX, hz⟩ := hS.old 1 rfl
        refine wp_store_row 62 _ _ rfl X1 #[.slice p1 n1 c1, .int .i64 C1, .int .i64 T1, .int .i64 a1, .int .i64 b1, .int .i64 x1, .int .i64 y1] rfl rfl 62 cs kX resSize hz (by simp [Value.oneCell']) ?_
        refine ⟨_, hS.store hbs (by omega) 1 rfl #[.slice p1 n1 c1, .int .i64 C1, .int .i64 T1, .int .i64 a1, .int .i64 b1, .int .i64 x1, .int .i64 y1] rfl, stab_many, (by first | exact .inr fun _ h => h.less (.inr ⟨_, _, rfl, rfl⟩) | exact fun _ h => h.less (.inr ⟨_, _, rfl, rfl⟩)), ?_⟩
        try simp only [act_norm]
        clear hS kX hz cs
        refine wpAnyE_one 8 rfl (by kernel_rfl) rfl (fun wd hS => ?_)
        obtain ⟨cs, kX, hz⟩ := hS.old 2 rfl
        refine wp_store_row 62 _ _ rfl X2 #[.slice p2 n2 c2, .int .i64 C2, .int .i64 T2, .int .i64 a2, .int .i64 b2, .int .i64 x2, .int .i64 y2] rfl rfl 62 cs kX resSize hz (by simp [Value.oneCell']) ?_
        refine ⟨_, hS.store hbs (by omega) 2 rfl #[.slice p2 n2 c2, .int .i64 C2, .int .i64 T2, .int .i64 a2, .int .i64 b2, .int .i64 x2, .int .i64 y2] rfl, stab_many, (by first | exact .inr fun _ h => h.less (.inr ⟨_, _, rfl, rfl⟩) | exact fun _ h => h.less (.inr ⟨_, _, rfl, rfl⟩)), ?_⟩
        try simp only [act_norm]
        clear hS kX hz cs
        refine wpAnyE_done (by kernel_rfl) (fun wd hS => ?_) _
        have MF := Lib.hid hS
        clear hS
        go_wp2_with fail
        go_meet
        exact ⟨X0, X1, X2, rfl, rfl, rfl, MF.out⟩
      · go_wp2
        refine ⟨_, hS.alloc 2 #[.slice none 0 0, .int .i64 0, .int .i64 0, .int .i64 0, .int .i64 0, .int .i64 0, .int .i64 0] rfl, stab_many, (by first | exact .inr fun _ h => h.less (.inl rfl) | exact fun _ h => h.less (.inl rfl)), ?_⟩
        try simp only [act_norm]
        obtain ⟨X2, hX⟩ : ∃ X, X = wd.heap.size := ⟨_, rfl⟩
        rw [← hX]
        clear hS hX
        refine wpAnyE_one 4 rfl (by kernel_rfl) rfl (fun wd hS => ?_)
        go_wp2
        refine ⟨_, hS.alloc 1 #[.slice none 0 0, .int .i64 0, .int .i64 0, .int .i64 0, .int .i64 0, .int .i64 0, .int .i64 0] rfl, stab_many, (by first | exact .inr fun _ h => h.less (.inl rfl) | exact fun _ h => h.less (.inl rfl)), ?_⟩
        try simp only [act_norm]
        obtain ⟨X1, hX⟩ : ∃ X, X = wd.heap.size := ⟨_, rfl⟩
        rw [← hX]
        clear hS hX
        refine wpAnyE_one 6 rfl (by kernel_rfl) rfl (fun wd hS => ?_)
        obtain ⟨cs, kX, hz⟩ := hS.old 0 rfl
        refine wp_store_row 62 _ _ rfl X0 #[.slice p0 n0 c0, .int .i64 C0, .int .i64 T0, .int .i64 a0, .int .i64 b0, .int .i64 x0, .int .i64 y0] rfl rfl 62 cs kX resSize hz (by simp [Value.oneCell']) ?_
        refine ⟨_, hS.store hbs (by omega) 0 rfl #[.slice p0 n0 c0, .int .i64 C0, .int .i64 T0, .int .i64 a0, .int .i64 b0, .int .i64 x0, .int .i64 y0] rfl, stab_many, (by first | exact .inr fun _ h => h.less (.inr ⟨_, _, rfl, rfl⟩) | exact fun _ h => h.less (.inr ⟨_, _, rfl, rfl⟩)), ?_⟩
        try simp only [act_norm]
        clear hS kX hz cs
        refine wpAnyE_one 7 rfl (by kernel_rfl) rfl (fun wd hS => ?_)
        obtain ⟨cs, kX, hz⟩ := hS.old 1 rfl
        refine wp_store_row 62 _ _ rfl X1 #[.slice p1 n1 c1, .int .i64 C1, .int .i64 T1, .int .i64 a1, .int .i64 b1, .int .i64 x1, .int .i64 y1] rfl rfl 62 cs kX resSize hz (by simp [Value.oneCell']) ?_
        refine ⟨_, hS.store hbs (by omega) 1 rfl #[.slice p1 n1 c1, .int .i64 C1, .int .i64 T1, .int .i64 a1, .int .i64 b1, .int .i64 x1, .int .i64 y1] rfl, stab_many, (by first | exact .inr fun _ h => h.less (.inr ⟨_, _, rfl, rfl⟩) | exact fun _ h => h.less (.inr ⟨_, _, rfl, rfl⟩)), ?_⟩
        try simp only [act_norm]
        clear hS kX hz cs
        refine wpAnyE_one 8 rfl (by kernel_rfl) rfl (fun wd hS => ?_)
        obtain ⟨cs, kX, hz⟩ := hS.old 2 rfl
        refine wp_store_row 62 _ _ rfl X2 #[.slice p2 n2 c2, .int .i64 C2, .int .i64 T2, .int .i64 a2, .int .i64 b2, .int .i64 x2, .int .i64 y2] rfl rfl 62 cs kX resSize hz (by simp [Value.oneCell']) ?_
        refine ⟨_, hS.store hbs (by omega) 2 rfl #[.slice p2 n2 c2, .int .i64 C2, .int .i64 T2, .int .i64 a2, .int .i64 b2, .int .i64 x2, .int .i64 y2] rfl, stab_many, (by first | exact .inr fun _ h => h.less (.inr ⟨_, _, rfl, rfl⟩) | exact fun _ h => h.less (.inr ⟨_, _, rfl, rfl⟩)), ?_⟩
        try simp only [act_norm]
        clear hS kX hz cs
        refine wpAnyE_done (by kernel_rfl) (fun wd hS => ?_) _
        have MF := Lib.hid hS
        clear hS
        go_wp2_with fail
        go_meet
        exact ⟨X0, X1, X2, rfl, rfl, rfl, MF.out⟩
    · go_wp2
      refine ⟨_, hS.alloc 1 #[.slice none 0 0, .int .i64 0, .int .i64 0, .int .i64 0, .int .i64 0, .int .i64 0, .int .i64 0] rfl, stab_many, (by first | exact .inr fun _ h => h.less (.inl rfl) | exact fun _ h => h.less (.inl rfl)), ?_⟩
      try simp only [act_norm]
      obtain ⟨X1, hX⟩ : ∃ X, X = wd.heap.size := ⟨_, rfl⟩
      rw [← hX]
      clear hS hX
      refine wpAnyE_two 3 5 rfl rfl (by kernel_rfl) rfl rfl (fun wd hS => ?_) (fun wd hS => ?_)
      · go_wp2
        refine ⟨_, hS.alloc 0 #[.slice none 0 0, .int .i64 0, .int .i64 0, .int .i64 0, .int .i64 0, .int .i64 0, .int .i64 0] rfl, stab_many, (by first | exact .inr fun _ h => h.less (.inl rfl) | exact fun _ h => h.less (.inl rfl)), ?_⟩
        try simp only [act_norm]
        obtain ⟨X0, hX⟩ : ∃ X, X = wd.heap.size := ⟨_, rfl⟩
        rw [← hX]
        clear hS hX
        refine wpAnyE_one 5 rfl (by kernel_rfl) rfl (fun wd hS => ?_)
        go_wp2
        refine ⟨_, hS.alloc 2 #[.slice none 0 0, .int .i64 0, .int .i64 0, .int .i64 0, .int .i64 0, .int .i64 0, .int .i64 0] rfl, stab_many, (by first | exact .inr fun _ h => h.less (.inl rfl) | exact fun _ h => h.less (.inl rfl)), ?_⟩
        try simp only [act_norm]
        obtain ⟨X2, hX⟩ : ∃ X, X = wd.heap.size := ⟨_, rfl⟩
        rw [← hX]
        clear hS hX
        refine wpAnyE_one 6 rfl (by kernel_rfl) rfl (fun wd hS => ?_)
        obtain ⟨cs, kX, hz⟩ := hS.old 0 rfl
        refine wp_store_row 62 _ _ rfl X0 #[.slice p0 n0 c0, .int .i64 C0, .int .i64 T0, .int .i64 a0, .int .i64 b0, .int .i64 x0, .int .i64 y0] rfl rfl 62 cs kX resSize hz (by simp [Value.oneCell']) ?_
        refine ⟨_, hS.store hbs (by omega) 0 rfl #[.slice p0 n0 c0, .int .i64 C0, .int .i64 T0, .int .i64 a0, .int .i64 b0, .int .i64 x0, .int .i64 y0] rfl, stab_many, (by first | exact .inr fun _ h => h.less (.inr ⟨_, _, rfl, rfl⟩) | exact fun _ h => h.less (.inr ⟨_, _, rfl, rfl⟩)), ?_⟩
        try simp only [act_norm]
        clear hS kX hz cs
        refine wpAnyE_one 7 rfl (by kernel_rfl) rfl (fun wd hS => ?_)
        obtain ⟨cs, kX, hz⟩ := hS.old 1 rfl
        refine wp_store_row 62 _ _ rfl X1 #[.slice p1 n1 c1, .int .i64 C1, .int .i64 T1, .int .i64 a1, .int .i64 b1, .int .i64 x1, .int .i64 y1] rfl rfl 62 cs kX resSize hz (by simp [Value.oneCell']) ?_
        refine ⟨_, hS.store hbs (by omega) 1 rfl #[.slice p1 n1 c1, .int .i64 C1, .int .i64 T1, .int .i64 a1, .int .i64 b1, .int .i64 x1, .int .i64 y1] rfl, stab_many, (by first | exact .inr fun _ h => h.less (.inr ⟨_, _, rfl, rfl⟩) | exact fun _ h => h.less (.inr ⟨_, _, rfl, rfl⟩)), ?_⟩
        try simp only [act_norm]
        clear hS kX hz cs
        refine wpAnyE_one 8 rfl (by kernel_rfl) rfl (fun wd hS => ?_)
        obtain ⟨cs, kX, hz⟩ := hS.old 2 rfl
        refine wp_store_row 62 _ _ rfl X2 #[.slice p2 n2 c2, .int .i64 C2, .int .i64 T2, .int .i64 a2, .int .i64 b2, .int .i64 x2, .int .i64 y2] rfl rfl 62 cs kX resSize hz (by simp [Value.oneCell']) ?_
        refine ⟨_, hS.store hbs (by omega) 2 rfl #[.slice p2 n2 c2, .int .i64 C2, .int .i64 T2, .int .i64 a2, .int .i64 b2, .int .i64 x2, .int .i64 y2] rfl, stab_many, (by first | exact .inr fun _ h => h.less (.inr ⟨_, _, rfl, rfl⟩) | exact fun _ h => h.less (.inr ⟨_, _, rfl, rfl⟩)), ?_⟩
        try simp only [act_norm]
        clear hS kX hz cs
        refine wpAnyE_done (by kernel_rfl) (fun wd hS => ?_) _
        have MF := Lib.hid hS
        clear hS
        go_wp2_with fail
        go_meet
        exact ⟨X0, X1, X2, rfl, rfl, rfl, MF.out⟩
      · go_wp2
        refine ⟨_, hS.alloc 2 #[.slice none 0 0, .int .i64 0, .int .i64 0, .int .i64 0, .int .i64 0, .int .i64 0, .int .i64 0] rfl, stab_many, (by first | exact .inr fun _ h => h.less (.inl rfl) | exact fun _ h => h.less (.inl rfl)), ?_⟩
        try simp only [act_norm]
        obtain ⟨X2, hX⟩ : ∃ X, X = wd.heap.size := ⟨_, rfl⟩
        rw [← hX]
        clear hS hX
        refine wpAnyE_one 3 rfl (by kernel_rfl) rfl (fun wd hS => ?_)
        go_wp2
        refine ⟨_, hS.alloc 0 #[.slice none 0 0, .int .i64 0, .int .i64 0, .int .i64 0, .int .i64 0, .int .i64 0, .int .i64 0] rfl, stab_many, (by first | exact .inr fun _ h => h.less (.inl rfl) | exact fun _ h => h.less (.inl rfl)), ?_⟩
        try simp only [act_norm]
        obtain ⟨X0, hX⟩ : ∃ X, X = wd.heap.size := ⟨_, rfl⟩
        rw [← hX]
        clear hS hX
        refine wpAnyE_one 6 rfl (by kernel_rfl) rfl (fun wd hS => ?_)
        obtain ⟨cs, kX, hz⟩ := hS.old 0 rfl
        refine wp_store_row 62 _ _ rfl X0 #[.slice p0 n0 c0, .int .i64 C0, .int .i64 T0, .int .i64 a0, .int .i64 b0, .int .i64 x0, .int .i64 y0] rfl rfl 62 cs kX resSize hz (by simp [Value.oneCell']) ?_
        refine ⟨_, hS.store hbs (by omega) 0 rfl #[.slice p0 n0 c0, .int .i64 C0, .int .i64 T0, .int .i64 a0, .int .i64 b0, .int .i64 x0, .int .i64 y0] rfl, stab_many, (by first | exact .inr fun _ h => h.less (.inr ⟨_, _, rfl, rfl⟩) | exact fun _ h => h.less (.inr ⟨_, _, rfl, rfl⟩)), ?_⟩
        try simp only [act_norm]
        clear hS kX hz cs
        refine wpAnyE_one 7 rfl (by kernel_rfl) rfl (fun wd hS => ?_)
        obtain ⟨cs, kX, hz⟩ := hS.old 1 rfl
        refine wp_store_row 62 _ _ rfl X1 #[.slice p1 n1 c1, .int .i64 C1, .int .i64 T1, .int .i64 a1, .int .i64 b1, .int .i64 x1, .int .i64 y1] rfl rfl 62 cs kX resSize hz (by simp [Value.oneCell']) ?_
        refine ⟨_, hS.store hbs (by omega) 1 rfl #[.slice p1 n1 c1, .int .i64 C1, .int .i64 T1, .int .i64 a1, .int .i64 b1, .int .i64 x1, .int .i64 y1] rfl, stab_many, (by first | exact .inr fun _ h => h.less (.inr ⟨_, _, rfl, rfl⟩) | exact fun _ h => h.less (.inr ⟨_, _, rfl, rfl⟩)), ?_⟩
        try simp only [act_norm]
        clear hS kX hz cs
        refine wpAnyE_one 8 rfl (by kernel_rfl) rfl (fun wd hS => ?_)
        obtain ⟨cs, kX, hz⟩ := hS.old 2 rfl
        refine wp_store_row 62 _ _ rfl X2 #[.slice p2 n2 c2, .int .i64 C2, .int .i64 T2, .int .i64 a2, .int .i64 b2, .int .i64 x2, .int .i64 y2] rfl rfl 62 cs kX resSize hz (by simp [Value.oneCell']) ?_
        refine ⟨_, hS.store hbs (by omega) 2 rfl #[.slice p2 n2 c2, .int .i64 C2, .int .i64 T2, .int .i64 a2, .int .i64 b2, .int .i64 x2, .int .i64 y2] rfl, stab_many, (by first | exact .inr fun _ h => h.less (.inr ⟨_, _, rfl, rfl⟩) | exact fun _ h => h.less (.inr ⟨_, _, rfl, rfl⟩)), ?_⟩
        try simp only [act_norm]
        clear hS kX hz cs
        refine wpAnyE_done (by kernel_rfl) (fun wd hS => ?_) _
        have MF := Lib.hid hS
        clear hS
        go_wp2_with fail
        go_meet
        exact ⟨X0, X1, X2, rfl, rfl, rfl, MF.out⟩
    · go_wp2
      refine ⟨_, hS.alloc 2 #[.slice none 0 0, .int .i64 0, .int .i64 0, .int .i64 0, .int .i64 0, .int .i64 0, .int .i64 0] rfl, stab_many, (by first | exact .inr fun _ h => h.less (.inl rfl) | exact fun _ h => h.less (.inl rfl)), ?_⟩
      try simp only [act_norm]
      obtain ⟨X2, hX⟩ : ∃ X, X = wd.heap.size := ⟨_, rfl⟩
      rw [← hX]
      clear hS hX
      refine wpAnyE_two 3 4 rfl rfl (by kernel_rfl) rfl rfl (fun wd hS => ?_) (fun wd hS => ?_)
      · go_wp2
        refine ⟨_, hS.alloc 0 #[.slice none 0 0, .int .i64 0, .int .i64 0, .int .i64 0, .int .i64 0, .int .i64 0, .int .i64 0] rfl, stab_many, (by first | exact .inr fun _ h => h.less (.inl rfl) | exact fun _ h => h.less (.inl rfl)), ?_⟩
        try simp only [act_norm]
        obtain ⟨X0, hX⟩ : ∃ X, X = wd.heap.size := ⟨_, rfl⟩
        rw [← hX]
        clear hS hX
        refine wpAnyE_one 4 rfl (by kernel_rfl) rfl (fun wd hS => ?_)
        go_wp2
        refine ⟨_, hS.alloc 1 #[.slice none 0 0, .int .i64 0, .int .i64 0, .int .i64 0, .int .i64 0, .int .i64 0, .int .i64 0] rfl, stab_many, (by first | exact .inr fun _ h => h.less (.inl rfl) | exact fun _ h => h.less (.inl rfl)), ?_⟩
        try simp only [act_norm]
        obtain ⟨X1, hX⟩ : ∃ X, X = wd.heap.size := ⟨_, rfl⟩
        rw [← hX]
        clear hS hX
        refine wpAnyE_one 6 rfl (by kernel_rfl) rfl (fun wd hS => ?_)
        obtain ⟨cs, kX, hz⟩ := hS.old 0 rfl
        refine wp_store_row 62 _ _ rfl X0 #[.slice p0 n0 c0, .int .i64 C0, .int .i64 T0, .int .i64 a0, .int .i64 b0, .int .i64 x0, .int .i64 y0] rfl rfl 62 cs kX resSize hz (by simp [Value.oneCell']) ?_
        refine ⟨_, hS.store hbs (by omega) 0 rfl #[.slice p0 n0 c0, .int .i64 C0, .int .i64 T0, .int .i64 a0, .int .i64 b0, .int .i64 x0, .int .i64 y0] rfl, stab_many, (by first | exact .inr fun _ h => h.less (.inr ⟨_, _, rfl, rfl⟩) | exact fun _ h => h.less (.inr ⟨_, _, rfl, rfl⟩)), ?_⟩
        try simp only [act_norm]
        clear hS kX hz cs
        refine wpAnyE_one 7 rfl (by kernel_rfl) rfl (fun wd hS => ?_)
        obtain ⟨cs, kX, hz⟩ := hS.old 1 rfl
        refine wp_store_row 62 _ _ rfl X1 #[.slice p1 n1 c1, .int .i64 C1, .int .i64 T1, .int .i64 a1, .int .i64 b1, .int .i64 x1, .int .i64 y1] rfl rfl 62 cs kX resSize hz (by simp [Value.oneCell']) ?_
        refine ⟨_, hS.store hbs (by omega) 1 rfl #[.slice p1 n1 c1, .int .i64 C1, .int .i64 T1, .int .i64 a1, .int .i64 b1, .int .i64 x1, .int .i64 y1] rfl, stab_many, (by first | exact .inr fun _ h => h.less (.inr ⟨_, _, rfl, rfl⟩) | exact fun _ h => h.less (.inr ⟨_, _, rfl, rfl⟩)), ?_⟩
        try simp only [act_norm]
        clear hS kX hz cs
        refine wpAnyE_one 8 rfl (by kernel_rfl) rfl (fun wd hS => ?_)
        obtain ⟨cs, kX, hz⟩ := hS.old 2 rfl
        refine wp_store_row 62 _ _ rfl X2 #[.slice p2 n2 c2, .int .i64 C2, .int .i64 T2, .int .i64 a2, .int .i64 b2, .int .i64 x2, .int .i64 y2] rfl rfl 62 cs kX resSize hz (by simp [Value.oneCell']) ?_
        refine ⟨_, hS.store hbs (by omega) 2 rfl #[.slice p2 n2 c2, .int .i64 C2, .int .i64 T2, .int .i64 a2, .int .i64 b2, .int .i64 x2, .int .i64 y2] rfl, stab_many, (by first | exact .inr fun _ h => h.less (.inr ⟨_, _, rfl, rfl⟩) | exact fun _ h => h.less (.inr ⟨_, _, rfl, rfl⟩)), ?_⟩
        try simp only [act_norm]
        clear hS kX hz cs
        refine wpAnyE_done (by kernel_rfl) (fun wd hS => ?_) _
        have MF := Lib.hid hS
        clear hS
        go_wp2_with fail
        go_meet
        exact ⟨X0, X1, X2, rfl, rfl, rfl, MF.out⟩
      · go_wp2
        refine ⟨_, hS.alloc 1 #[.slice none 0 0, .int .i64 0, .int .i64 0, .int .i64 0, .int .i64 0, .int .i64 0, .int .i64 0] rfl, stab_many, (by first | exact .inr fun _ h => h.less (.inl rfl) | exact fun _ h => h.less (.inl rfl)), ?_⟩
        try simp only [act_norm]
        obtain ⟨X1, hX⟩ : ∃ X, X = wd.heap.size := ⟨_, rfl⟩
        rw [← hX]
        clear hS hX
        refine wpAnyE_one 3 rfl (by kernel_rfl) rfl (fun wd hS => ?_)
        go_wp2
        refine ⟨_, hS.alloc 0 #[.slice none 0 0, .int .i64 0, .int .i64 0, .int .i64 0, .int .i64 0, .int .i64 0, .int .i64 0] rfl, stab_many, (by first | exact .inr fun _ h => h.less (.inl rfl) | exact fun _ h => h.less (.inl rfl)), ?_⟩
        try simp only [act_norm]
        obtain ⟨X0, hX⟩ : ∃ X, X = wd.heap.size := ⟨_, rfl⟩
        rw [← hX]
        clear hS hX
        refine wpAnyE_one 6 rfl (by kernel_rfl) rfl (fun wd hS => ?_)
        obtain ⟨cs, kX, hz⟩ := hS.old 0 rfl
        refine wp_store_row 62 _ _ rfl X0 #[.slice p0 n0 c0, .int .i64 C0, .int .i64 T0, .int .i64 a0, .int .i64 b0, .int .i64 x0, .int .i64 y0] rfl rfl 62 cs kX resSize hz (by simp [Value.oneCell']) ?_
        refine ⟨_, hS.store hbs (by omega) 0 rfl #[.slice p0 n0 c0, .int .i64 C0, .int .i64 T0, .int .i64 a0, .int .i64 b0, .int .i64 x0, .int .i64 y0] rfl, stab_many, (by first | exact .inr fun _ h => h.less (.inr ⟨_, _, rfl, rfl⟩) | exact fun _ h => h.less (.inr ⟨_, _, rfl, rfl⟩)), ?_⟩
        try simp only [act_norm]
        clear hS kX hz cs
        refine wpAnyE_one 7 rfl (by kernel_rfl) rfl (fun wd hS => ?_)
        obtain ⟨cs, kX, hz⟩ := hS.old 1 rfl
        refine wp_store_row 62 _ _ rfl X1 #[.slice p1 n1 c1, .int .i64 C1, .int .i64 T1, .int .i64 a1, .int .i64 b1, .int .i64 x1, .int .i64 y1] rfl rfl 62 cs kX resSize hz (by simp [Value.oneCell']) ?_
        refine ⟨_, hS.store hbs (by omega) 1 rfl #[.slice p1 n1 c1, .int .i64 C1, .int .i64 T1, .int .i64 a1, .int .i64 b1, .int .i64 x1, .int .i64 y1] rfl, stab_many, (by first | exact .inr fun _ h => h.less (.inr ⟨_, _, rfl, rfl⟩) | exact fun _ h => h.less (.inr ⟨_, _, rfl, rfl⟩)), ?_⟩
        try simp only [act_norm]
        clear hS kX hz cs
        refine wpAnyE_one 8 rfl (by kernel_rfl) rfl (fun wd hS => ?_)
        obtain ⟨cs, kX, hz⟩ := hS.old 2 rfl
        refine wp_store_row 62 _ _ rfl X2 #[.slice p2 n2 c2, .int .i64 C2, .int .i64 T2, .int .i64 a2, .int .i64 b2, .int .i64 x2, .int .i64 y2] rfl rfl 62 cs kX resSize hz (by simp [Value.oneCell']) ?_
        refine ⟨_, hS.store hbs (by omega) 2 rfl #[.slice p2 n2 c2, .int .i64 C2, .int .i64 T2, .int .i64 a2, .int .i64 b2, .int .i64 x2, .int .i64 y2] rfl, stab_many, (by first | exact .inr fun _ h => h.less (.inr ⟨_, _, rfl, rfl⟩) | exact fun _ h => h.less (.inr ⟨_, _, rfl, rfl⟩)), ?_⟩
        try simp only [act_norm]
        clear hS kX hz cs
        refine wpAnyE_done (by kernel_rfl) (fun wd hS => ?_) _
        have MF := Lib.hid hS
        clear hS
        go_wp2_with fail
        go_meet
        exact ⟨X0, X1, X2, rfl, rfl, rfl, MF.out⟩
  case rest =>
    obtain ⟨X0, X1, X2, rfl, rfl, rfl, hM⟩ := hcut
    have MM := Lib.hid hM
    clear hM M1 hbs
    go_wp2_with fail
    have hst := stab_many (w := w) (bs := [(w.heap.size, .cells #[.slice p0 n0 c0, .int .i64 C0, .int .i64 T0, .int .i64 a0, .int .i64 b0, .int .i64 x0, .int .i64 y0] 61), (w.heap.size + 1, .cells #[.slice p1 n1 c1, .int .i64 C1, .int .i64 T1, .int .i64 a1, .int .i64 b1, .int .i64 x1, .int .i64 y1] 61), (w.heap.size + 2, .cells #[.slice p2 n2 c2, .int .i64 C2, .int .i64 T2, .int .i64 a2, .int .i64 b2, .int .i64 x2, .int .i64 y2] 61)]) (s := w.heap.size + 3) (T := 62) (m := 7) (e := [some (X0, some #[.slice p0 n0 c0, .int .i64 C0, .int .i64 T0, .int .i64 a0, .int .i64 b0, .int .i64 x0, .int .i64 y0]), some (X1, some #[.slice p1 n1 c1, .int .i64 C1, .int .i64 T1, .int .i64 a1, .int .i64 b1, .int .i64 x1, .int .i64 y1]), some (X2, some #[.slice p2 n2 c2, .int .i64 C2, .int .i64 T2, .int .i64 a2, .int .i64 b2, .int .i64 x2, .int .i64 y2])])
    refine wp_region_E mixed [] hst (hst _ _ MM.out (below_drew (Below.refl _ _))) ?_
    refine wpAnyE_take 0 (v := .agg #[.slice p0 n0 c0, .int .i64 C0, .int .i64 T0, .int .i64 a0, .int .i64 b0, .int .i64 x0, .int .i64 y0]) rfl (by kernel_rfl) (by kernel_rfl) (by kernel_rfl) (fun _ _ _ h => h) hst (EffB.run rfl rfl (fun wd hS => ?_)) (.inl (by kernel_rfl)) ?_
    · exact wp_load_row 62 _ rfl (X0) rfl 62 #[.slice p0 n0 c0, .int .i64 C0, .int .i64 T0, .int .i64 a0, .int .i64 b0, .int .i64 x0, .int .i64 y0] (0, 0) _ (hS.heap 0 rfl) Try.underlying62 rfl (by kernel_rfl) ⟨rfl, Below.refl _ _⟩
    simp only [act_norm]
    refine wpAnyE_take 1 (v := .agg #[.slice p1 n1 c1, .int .i64 C1, .int .i64 T1, .int .i64 a1, .int .i64 b1, .int .i64 x1, .int .i64 y1]) rfl (by kernel_rfl) (by kernel_rfl) (by kernel_rfl) (fun _ _ _ h => h) hst (EffB.run rfl rfl (fun wd hS => ?_)) (.inl (by kernel_rfl)) ?_
    · exact wp_load_row 62 _ rfl (X1) rfl 62 #[.slice p1 n1 c1, .int .i64 C1, .int .i64 T1, .int .i64 a1, .int .i64 b1, .int .i64 x1, .int .i64 y1] (0, 0) _ (hS.heap 1 rfl) Try.underlying62 rfl (by kernel_rfl) ⟨rfl, Below.refl _ _⟩
    simp only [act_norm]
    refine wpAnyE_take 2 (v := .int .i64 v01) rfl (by kernel_rfl) (by kernel_rfl) (by kernel_rfl) (fun _ _ _ h => h) hst (EffB.run rfl rfl (fun wd hS => ?_)) (.inl (by kernel_rfl)) ?_
    · (go_wp2_with fail; (with_reducible refine (F01.out wd).mono ?_); rintro e w'' ⟨rfl, hb⟩; exact ⟨rfl, hb⟩)
    simp only [act_norm]
    refine wpAnyE_take 3 (v := .agg #[.slice p0 n0 c0, .int .i64 C0, .int .i64 T0, .int .i64 a0, .int .i64 b0, .int .i64 x0, .int .i64 y0]) rfl (by kernel_rfl) (by kernel_rfl) (by kernel_rfl) (fun _ _ _ h => h) hst (EffB.run rfl rfl (fun wd hS => ?_)) (.inl (by kernel_rfl)) ?_
    · exact wp_load_row 61 _ rfl ((w.heap.size)) rfl 61 #[.slice p0 n0 c0, .int .i64 C0, .int .i64 T0, .int .i64 a0, .int .i64 b0, .int .i64 x0, .int .i64 y0] (0, 0) _ (hS.mem.heap 0 rfl) Try.underlying61 rfl (by kernel_rfl) ⟨rfl, Below.refl _ _⟩
    simp only [act_norm]
    refine wpAnyE_take 4 (v := .agg #[.slice p1 n1 c1, .int .i64 C1, .int .i64 T1, .int .i64 a1, .int .i64 b1, .int .i64 x1, .int .i64 y1]) rfl (by kernel_rfl) (by kernel_rfl) (by kernel_rfl) (fun _ _ _ h => h) hst (EffB.run rfl rfl (fun wd hS => ?_)) (.inl (by kernel_rfl)) ?_
    · exact wp_load_row 61 _ rfl ((w.heap.size + 1)) rfl 61 #[.slice p1 n1 c1, .int .i64 C1, .int .i64 T1, .int .i64 a1, .int .i64 b1, .int .i64 x1, .int .i64 y1] (0, 0) _ (hS.mem.heap 1 rfl) Try.underlying61 rfl (by kernel_rfl) ⟨rfl, Below.refl _ _⟩
    simp only [act_norm]
    refine wpAnyE_take 5 (v := .int .i64 v01) rfl (by kernel_rfl) (by kernel_rfl) (by kernel_rfl) (fun _ _ _ h => h) hst (EffB.run rfl rfl (fun wd hS => ?_)) (.inl (by kernel_rfl)) ?_
    · (go_wp2_with fail; (with_reducible refine (G01.out wd).mono ?_); rintro e w'' ⟨rfl, hb⟩; exact ⟨rfl, hb⟩)
    simp only [act_norm]
    refine wpAnyE_take 6 (v := .bool false) rfl (by kernel_rfl) (by kernel_rfl) (by kernel_rfl) (fun _ _ _ h => h) hst (EffB.run rfl rfl (fun wd hS => ?_)) (.inr (EffB.run rfl rfl (fun wd hS => ?_))) ?_
    · (go_wp2; exact ⟨rfl, Below.refl _ _⟩)
    · (go_wp2; exact ⟨rfl, Below.refl _ _⟩)
    simp only [act_norm]
    refine wpAnyE_take 7 rfl (by kernel_rfl) (by kernel_rfl) (by kernel_rfl) (fun _ _ _ h => h) hst (EffB.pure rfl (fun _ => rfl)) (.inr (EffB.pure rfl (fun _ => rfl))) ?_
    simp only [act_norm]
    refine wpAnyE_take 8 (v := .agg #[.slice p0 n0 c0, .int .i64 C0, .int .i64 T0, .int .i64 a0, .int .i64 b0, .int .i64 x0, .int .i64 y0]) rfl (by kernel_rfl) (by kernel_rfl) (by kernel_rfl) (fun _ _ _ h => h) hst (EffB.run rfl rfl (fun wd hS => ?_)) (.inl (by kernel_rfl)) ?_
    · exact wp_load_row 62 _ rfl (X0) rfl 62 #[.slice p0 n0 c0, .int .i64 C0, .int .i64 T0, .int .i64 a0, .int .i64 b0, .int .i64 x0, .int .i64 y0] (0, 0) _ (hS.heap 0 rfl) Try.underlying62 rfl (by kernel_rfl) ⟨rfl, Below.refl _ _⟩
    simp only [act_norm]
    refine wpAnyE_take 9 (v := .agg #[.slice p1 n1 c1, .int .i64 C1, .int .i64 T1, .int .i64 a1, .int .i64 b1, .int .i64 x1, .int .i64 y1]) rfl (by kernel_rfl) (by kernel_rfl) (by kernel_rfl) (fun _ _ _ h => h) hst (EffB.run rfl rfl (fun wd hS => ?_)) (.inl (by kernel_rfl)) ?_
    · exact wp_load_row 62 _ rfl (X1) rfl 62 #[.slice p1 n1 c1, .int .i64 C1, .int .i64 T1, .int .i64 a1, .int .i64 b1, .int .i64 x1, .int .i64 y1] (0, 0) _ (hS.heap 1 rfl) Try.underlying62 rfl (by kernel_rfl) ⟨rfl, Below.refl _ _⟩
    simp only [act_norm]
    refine wpAnyE_take 10 (v := .int .i64 v01) rfl (by kernel_rfl) (by kernel_rfl) (by kernel_rfl) (fun _ _ _ h => h) hst (EffB.run rfl rfl (fun wd hS => ?_)) (.inl (by kernel_rfl)) ?_
    · (go_wp2_with fail; (with_reducible refine (F01.out wd).mono ?_); rintro e w'' ⟨rfl, hb⟩; exact ⟨rfl, hb⟩)
    simp only [act_norm]
    refine wpAnyE_take 11 (v := .agg #[.slice p1 n1 c1, .int .i64 C1, .int .i64 T1, .int .i64 a1, .int .i64 b1, .int .i64 x1, .int .i64 y1]) rfl (by kernel_rfl) (by kernel_rfl) (by kernel_rfl) (fun _ _ _ h => h) hst (EffB.run rfl rfl (fun wd hS => ?_)) (.inl (by kernel_rfl)) ?_
    · exact wp_load_row 62 _ rfl (X1) rfl 62 #[.slice p1 n1 c1, .int .i64 C1, .int .i64 T1, .int .i64 a1, .int .i64 b1, .int .i64 x1, .int .i64 y1] (0, 0) _ (hS.heap 1 rfl) Try.underlying62 rfl (by kernel_rfl) ⟨rfl, Below.refl _ _⟩
    simp only [act_norm]
    refine wpAnyE_take 12 (v := .agg #[.slice p0 n0 c0, .int .i64 C0, .int .i64 T0, .int .i64 a0, .int .i64 b0, .int .i64 x0, .int .i64 y0]) rfl (by kernel_rfl) (by kernel_rfl) (by kernel_rfl) (fun _ _ _ h => h) hst (EffB.run rfl rfl (fun wd hS => ?_)) (.inl (by kernel_rfl)) ?_
    · exact wp_load_row 62 _ rfl (X0) rfl 62 #[.slice p0 n0 c0, .int .i64 C0, .int .i64 T0, .int .i64 a0, .int .i64 b0, .int .i64 x0, .int .i64 y0] (0, 0) _ (hS.heap 0 rfl) Try.underlying62 rfl (by kernel_rfl) ⟨rfl, Below.refl _ _⟩
    simp only [act_norm]
    refine wpAnyE_take 13 (v := .int .i64 v10) rfl (by kernel_rfl) (by kernel_rfl) (by kernel_rfl) (fun _ _ _ h => h) hst (EffB.run rfl rfl (fun wd hS => ?_)) (.inl (by kernel_rfl)) ?_
    · (go_wp2_with fail; (with_reducible refine (F10.out wd).mono ?_); rintro e w'' ⟨rfl, hb⟩; exact ⟨rfl, hb⟩)
    simp only [act_norm]
    refine wpAnyE_take 14 (v := .int .i64 (-v10)) rfl (by kernel_rfl) (by kernel_rfl) (by kernel_rfl) (fun _ _ _ h => h) hst (EffB.run rfl rfl (fun wd hS => ?_)) (.inr (EffB.run rfl rfl (fun wd hS => ?_))) ?_
    · (go_wp2; exact ⟨rfl, Below.refl _ _⟩)
    · (go_wp2; exact ⟨rfl, Below.refl _ _⟩)
    simp only [act_norm]
    rw [HN.out]
    refine wpAnyE_take 15 (v := .bool false) rfl (by kernel_rfl) (by kernel_rfl) (by kernel_rfl) (fun _ _ _ h => h) hst (EffB.run rfl rfl (fun wd hS => ?_)) (.inr (EffB.run rfl rfl (fun wd hS => ?_))) ?_
    · (go_wp2; exact ⟨rfl, Below.refl _ _⟩)
    · (go_wp2; exact ⟨rfl, Below.refl _ _⟩)
    simp only [act_norm]
    refine wpAnyE_take 16 rfl (by kernel_rfl) (by kernel_rfl) (by kernel_rfl) (fun _ _ _ h => h) hst (EffB.pure rfl (fun _ => rfl)) (.inr (EffB.pure rfl (fun _ => rfl))) ?_
    simp only [act_norm]
    refine wpAnyE_take 17 rfl (by kernel_rfl) (by kernel_rfl) (by kernel_rfl) (fun _ _ _ h => h) hst (EffB.pure rfl (fun _ => rfl)) (.inr (EffB.pure rfl (fun _ => rfl))) ?_
    simp only [act_norm]
    refine wpAnyE_take 18 (v := .agg #[.slice p0 n0 c0, .int .i64 C0, .int .i64 T0, .int .i64 a0, .int .i64 b0, .int .i64 x0, .int .i64 y0]) rfl (by kernel_rfl) (by kernel_rfl) (by kernel_rfl) (fun _ _ _ h => h) hst (EffB.run rfl rfl (fun wd hS => ?_)) (.inl (by kernel_rfl)) ?_
    · exact wp_load_row 62 _ rfl (X0) rfl 62 #[.slice p0 n0 c0, .int .i64 C0, .int .i64 T0, .int .i64 a0, .int .i64 b0, .int .i64 x0, .int .i64 y0] (0, 0) _ (hS.heap 0 rfl) Try.underlying62 rfl (by kernel_rfl) ⟨rfl, Below.refl _ _⟩
    simp only [act_norm]
    refine wpAnyE_take 19 (v := .agg #[.slice p0 n0 c0, .int .i64 C0, .int .i64 T0, .int .i64 a0, .int .i64 b0, .int .i64 x0, .int .i64 y0]) rfl (by kernel_rfl) (by kernel_rfl) (by kernel_rfl) (fun _ _ _ h => h) hst (EffB.run rfl rfl (fun wd hS => ?_)) (.inl (by kernel_rfl)) ?_
    · exact wp_load_row 62 _ rfl (X0) rfl 62 #[.slice p0 n0 c0, .int .i64 C0, .int .i64 T0, .int .i64 a0, .int .i64 b0, .int .i64 x0, .int .i64 y0] (0, 0) _ (hS.heap 0 rfl) Try.underlying62 rfl (by kernel_rfl) ⟨rfl, Below.refl _ _⟩
    simp only [act_norm]
    refine wpAnyE_take 20 (v := .int .i64 0) rfl (by kernel_rfl) (by kernel_rfl) (by kernel_rfl) (fun _ _ _ h => h) hst (EffB.run rfl rfl (fun wd hS => ?_)) (.inl (by kernel_rfl)) ?_
    · (go_wp2_with fail; (with_reducible refine (F00.out wd).mono ?_); rintro e w'' ⟨rfl, hb⟩; exact ⟨rfl, hb⟩)
    simp only [act_norm]
    refine wpAnyE_take 21 (v := .bool false) rfl (by kernel_rfl) (by kernel_rfl) (by kernel_rfl) (fun _ _ _ h => h) hst (EffB.run rfl rfl (fun wd hS => ?_)) (.inr (EffB.run rfl rfl (fun wd hS => ?_))) ?_
    · (go_wp2; exact ⟨rfl, Below.refl _ _⟩)
    · (go_wp2; exact ⟨rfl, Below.refl _ _⟩)
    simp only [act_norm]
    refine wpAnyE_take 22 rfl (by kernel_rfl) (by kernel_rfl) (by kernel_rfl) (fun _ _ _ h => h) hst (EffB.pure rfl (fun _ => rfl)) (.inr (EffB.pure rfl (fun _ => rfl))) ?_
    simp only [act_norm]
    refine wpAnyE_done (by kernel_rfl) (fun wd hS => ?_) _
    have M4 := Lib.hid hS
    clear hS MM
    have K0 := Lib.hid (M4.out.heap 0 rfl)
    have K1 := Lib.hid (M4.out.heap 1 rfl)
    by_cases q01 : 0 < v01
    · have d01 : decide (0 < v01) = true := decide_eq_true q01
      go_wp2_with (first | ((with_reducible refine wpList_load_rowAs rfl 62 _ rfl (X0) ?_ 62 #[.slice p0 n0 c0, .int .i64 C0, .int .i64 T0, .int .i64 a0, .int .i64 b0, .int .i64 x0, .int .i64 y0] (0, 0) _ 7 ?_ Try.underlying62 rfl (by kernel_rfl) ?_ ?_); exact rfl; exact K0.out; exact rfl) | ((with_reducible refine wpList_load_rowAs rfl 62 _ rfl (X1) ?_ 62 #[.slice p1 n1 c1, .int .i64 C1, .int .i64 T1, .int .i64 a1, .int .i64 b1, .int .i64 x1, .int .i64 y1] (0, 0) _ 7 ?_ Try.underlying62 rfl (by kernel_rfl) ?_ ?_); exact rfl; exact K1.out; exact rfl))
      (with_reducible refine (F01.out _).mono ?_)
      rintro e w5 ⟨rfl, hb5⟩
      have M5 := Lib.hid (M4.out.mem.below.trans (hb5.mono M4.out.mem.below.size))
      clear hb5
      go_wp2
      go_ret
      exact ⟨rfl, M5.out⟩
    · have d01 : decide (0 < v01) = false := decide_eq_false q01
      go_wp2_with (first | ((with_reducible refine wpList_load_rowAs rfl 62 _ rfl (X0) ?_ 62 #[.slice p0 n0 c0, .int .i64 C0, .int .i64 T0, .int .i64 a0, .int .i64 b0, .int .i64 x0, .int .i64 y0] (0, 0) _ 7 ?_ Try.underlying62 rfl (by kernel_rfl) ?_ ?_); exact rfl; exact K0.out; exact rfl) | ((with_reducible refine wpList_load_rowAs rfl 62 _ rfl (X1) ?_ 62 #[.slice p1 n1 c1, .int .i64 C1, .int .i64 T1, .int .i64 a1, .int .i64 b1, .int .i64 x1, .int .i64 y1] (0, 0) _ 7 ?_ Try.underlying62 rfl (by kernel_rfl) ?_ ?_); exact rfl; exact K1.out; exact rfl))
      (with_reducible refine (F01.out _).mono ?_)
      rintro e w5 ⟨rfl, hb5⟩
      have M5 := Lib.hid (hst _ _ M4.out hb5)
      have J0 := Lib.hid (M5.out.heap 0 rfl)
      have J1 := Lib.hid (M5.out.heap 1 rfl)
      have J2 := Lib.hid (M5.out.heap 2 rfl)
      clear hb5 M4 K0 K1
      by_cases q12 : 0 < v12
      · have d12 : decide (0 < v12) = true := decide_eq_true q12
        go_wp2_with (first | ((with_reducible refine wpList_load_rowG ?_ 62 _ rfl (X1) ?_ 62 #[.slice p1 n1 c1, .int .i64 C1, .int .i64 T1, .int .i64 a1, .int .i64 b1, .int .i64 x1, .int .i64 y1] (0, 0) _ 7 ?_ Try.underlying62 rfl (by kernel_rfl) ?_ ?_); kernel_rfl; exact rfl; exact J1.out; exact rfl) | ((with_reducible refine wpList_load_rowG ?_ 62 _ rfl (X2) ?_ 62 #[.slice p2 n2 c2, .int .i64 C2, .int .i64 T2, .int .i64 a2, .int .i64 b2, .int .i64 x2, .int .i64 y2] (0, 0) _ 7 ?_ Try.underlying62 rfl (by kernel_rfl) ?_ ?_); kernel_rfl; exact rfl; exact J2.out; exact rfl))
        (with_reducible refine (F12.out _).mono ?_)
        rintro e w6 ⟨rfl, hb6⟩
        have M6 := Lib.hid (M5.out.mem.below.trans (hb6.mono M5.out.mem.below.size))
        clear hb6
        go_wp2
        go_ret
        exact ⟨rfl, M6.out⟩
      · have d12 : decide (0 < v12) = false := decide_eq_false q12
        have q02 : v02 ≤ 0 := HT.out (by omega) (by omega)
        have d02 : decide (v02 ≤ 0) = true := decide_eq_true q02
        go_wp2_with (first | ((with_reducible refine wpList_load_rowG ?_ 62 _ rfl (X1) ?_ 62 #[.slice p1 n1 c1, .int .i64 C1, .int .i64 T1, .int .i64 a1, .int .i64 b1, .int .i64 x1, .int .i64 y1] (0, 0) _ 7 ?_ Try.underlying62 rfl (by kernel_rfl) ?_ ?_); kernel_rfl; exact rfl; exact J1.out; exact rfl) | ((with_reducible refine wpList_load_rowG ?_ 62 _ rfl (X2) ?_ 62 #[.slice p2 n2 c2, .int .i64 C2, .int .i64 T2, .int .i64 a2, .int .i64 b2, .int .i64 x2, .int .i64 y2] (0, 0) _ 7 ?_ Try.underlying62 rfl (by kernel_rfl) ?_ ?_); kernel_rfl; exact rfl; exact J2.out; exact rfl))
        (with_reducible refine (F12.out _).mono ?_)
        rintro e w6 ⟨rfl, hb6⟩
        have M6 := Lib.hid (hst _ _ M5.out hb6)
        have L0 := Lib.hid (M6.out.heap 0 rfl)
        have L2 := Lib.hid (M6.out.heap 2 rfl)
        clear hb6 M5 J0 J1 J2
        go_wp2_with (first | ((with_reducible refine wpList_load_rowG ?_ 62 _ rfl (X0) ?_ 62 #[.slice p0 n0 c0, .int .i64 C0, .int .i64 T0, .int .i64 a0, .int .i64 b0, .int .i64 x0, .int .i64 y0] (0, 0) _ 7 ?_ Try.underlying62 rfl (by kernel_rfl) ?_ ?_); kernel_rfl; exact rfl; exact L0.out; exact rfl) | ((with_reducible refine wpList_load_rowG ?_ 62 _ rfl (X2) ?_ 62 #[.slice p2 n2 c2, .int .i64 C2, .int .i64 T2, .int .i64 a2, .int .i64 b2, .int .i64 x2, .int .i64 y2] (0, 0) _ 7 ?_ Try.underlying62 rfl (by kernel_rfl) ?_ ?_); kernel_rfl; exact rfl; exact L2.out; exact rfl))
        (with_reducible refine (F02.out _).mono ?_)
        rintro e w7 ⟨rfl, hb7⟩
        have M7 := Lib.hid (M6.out.mem.below.trans (hb7.mono M6.out.mem.below.size))
        clear hb7
        go_wp2
        go_ret
        exact ⟨rfl, M7.out⟩
end Go.Proofs.Ytcinfpgpldmkaaa
