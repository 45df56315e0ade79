/- Layer 44, two texts in one (XOpenRes, XTri7): the law on which of two results is better. -/
import Derived.Test.YtildjnibdappnaaGreatJTriOrd
namespace Go.Proofs.YtildjnibdappnaaGreat
open Go.ChangeShapes Go.WideShapes Go.ChangeAt Go.RowKit
section
open Go.Deep

section
variable {H : Type} {enc : TypeId × Value → H} {P : Program} {w : World} {base : Nat} {sp : Nat → Bool} {hd : Bool}
theorem res_cells {t e : TypeId} {fs : Array Field} {fuel : Nat} {cs : List Value} {x : DataW H × List MemPlace} (hs : P.underlying t = some (.struct fs)) (hone : oneCellFields P fs = true) (hC : P.cellsOf t = fs.size)
    (hk : (fs.toList.map fun f => P.underlying f.type) = [some (.slice e), some (.int .i64), some (.int .i64), some (.int .i64), some (.int .i64), some (.int .i64), some (.int .i64)]) (h : DataW.trod enc P w base sp hd fuel t cs = some x) :
    ∃ (p : Option Addr) (n c : Nat) (C T a b y z : Int), cs = [.slice p n c, .int .i64 C, .int .i64 T, .int .i64 a, .int .i64 b, .int .i64 y, .int .i64 z] := by
  have hsz : fs.size = 7 := by
    have := congrArg List.length hk
    simpa using this
  obtain ⟨xs, n, _, rfl, hl, hlen, hf⟩ := DataW.trod_struct hs h
  have hcl : cs.length = 7 := (hl.trans hC).trans hsz
  have one : ∀ j (hj : j < fs.size), DataW.trod enc P w base sp hd n fs[j].type [cs[j]'(by omega)] = some (xs[j]'(by omega)) := by
    intro j hj
    have hfj : fs[j]? = some fs[j] := Array.getElem?_eq_getElem hj
    obtain ⟨ho, h1⟩ := hone_of hone j _ hfj
    have hg := hf j _ hfj
    have hxs : xs[j]? = some (xs[j]'(by omega)) := List.getElem?_eq_getElem (by omega)
    rw [ho, h1, List.drop_eq_getElem_cons (by omega), hxs] at hg
    rw [List.take_succ_cons, List.take_zero] at hg
    exact hg
  have ty : ∀ j (hj : j < fs.size), some (P.underlying fs[j].type) = ([some (.slice e), some (.int .i64), some (.int .i64), some (.int .i64), some (.int .i64), some (.int .i64), some (.int .i64)] : List (Option TypeDesc))[j]? := by
    intro j hj
    have := congrArg (fun l : List (Option TypeDesc) => l[j]?) hk
    simpa [hj] using this
  have int : ∀ j (hj : j < fs.size), P.underlying fs[j].type = some (.int .i64) → ∃ a, cs[j]'(by omega) = .int .i64 a := by
    intro j hj hkj
    obtain ⟨a, e1, _, _⟩ := DataW.trod_int hkj (one j hj)
    exact ⟨a, by simpa using e1⟩
  have h0 : ∃ (p : Option Addr) (n c : Nat), cs[0]'(by omega) = .slice p n c := by
    have ht := ty 0 (by omega)
    simp only [List.getElem?_cons_zero, Option.some.injEq] at ht
    rcases open_slice ht (one 0 (by omega)) with ⟨hcs, _⟩ | ⟨a, len, cap, _, _, _, _, hcs, _⟩
    · exact ⟨_, _, _, by simpa using hcs⟩
    · exact ⟨_, _, _, by simpa using hcs⟩
  obtain ⟨p, k, c, e0⟩ := h0
  obtain ⟨C, e1⟩ := int 1 (by omega) (by have := ty 1 (by omega); simpa using this)
  obtain ⟨T, e2⟩ := int 2 (by omega) (by have := ty 2 (by omega); simpa using this)
  obtain ⟨a, e3⟩ := int 3 (by omega) (by have := ty 3 (by omega); simpa using this)
  obtain ⟨b, e4⟩ := int 4 (by omega) (by have := ty 4 (by omega); simpa using this)
  obtain ⟨y, e5⟩ := int 5 (by omega) (by have := ty 5 (by omega); simpa using this)
  obtain ⟨z, e6⟩ := int 6 (by omega) (by have := ty 6 (by omega); simpa using this)
  refine ⟨p, k, c, C, T, a, b, y, z, ?_⟩
  have q : ∀ (j : Nat) (hj : j < cs.length) (v : Value), cs[j] = v → cs[j]? = some v := fun j hj v e => by rw [List.getElem?_eq_getElem hj, e]
  have z0 := q 0 (by omega) _ e0
  have z1 := q 1 (by omega) _ e1
  have z2 := q 2 (by omega) _ e2
  have z3 := q 3 (by omega) _ e3
  have z4 := q 4 (by omega) _ e4
  have z5 := q 5 (by omega) _ e5
  have z6 := q 6 (by omega) _ e6
  apply List.ext_getElem?
  intro i
  match i with
  | 0 => exact z0
  | 1 => exact z1
  | 2 => exact z2
  | 3 => exact z3
  | 4 => exact z4
  | 5 => exact z5
  | 6 => exact z6
  | i + 7 => rw [List.getElem?_eq_none (by omega)]; rfl
theorem open_res {r : Reach} {b0 : Nat} {t e : TypeId} {fs : Array Field} {v : Value} {d : DataW H} {ps : List MemPlace} (hs : P.underlying t = some (.struct fs)) (hone : oneCellFields P fs = true) (hC : P.cellsOf t = fs.size)
    (hk : (fs.toList.map fun f => P.underlying f.type) = [some (.slice e), some (.int .i64), some (.int .i64), some (.int .i64), some (.int .i64), some (.int .i64), some (.int .i64)]) (hv : Value.okWide P w r b0 t v) (h : DataW.Trod enc P w base sp hd t v d ps) :
    ∃ (p : Option Addr) (n c : Nat) (C T a b y z : Int), v = .agg #[.slice p n c, .int .i64 C, .int .i64 T, .int .i64 a, .int .i64 b, .int .i64 y, .int .i64 z] := by
  obtain ⟨cs, rfl, hsz⟩ := okWide_struct hs hv
  obtain ⟨fuel, hf⟩ := h
  obtain ⟨p, n, c, C, T, a, b, y, z, h2⟩ := res_cells hs hone hC hk hf
  refine ⟨p, n, c, C, T, a, b, y, z, ?_⟩
  have h3 : cs.toList = [.slice p n c, .int .i64 C, .int .i64 T, .int .i64 a, .int .i64 b, .int .i64 y, .int .i64 z] := by simpa [Value.cells] using h2
  rw [show cs = cs.toList.toArray by simp, h3]
end
end

theorem resSize : (Tryz.prog.info? 28).map (·.size) = some 7 := by kernel_rfl
section
variable {P : Program} {ops : Array Oper} {Q : Exit → Act → World → Prop} {md : Region.Mode} {S S' : World → Prop} {js : List Nat}
/-- Three are ready, each of a kind whose value hangs on when it is done: all ways. -/
theorem wpAnyE_three (i j k : Nat) {oi oj ok : Oper} {ti tj tk : List Oper} {fuel : Nat} {listed : Array Bool} {a : Act} (hi' : ops.toList.drop i = oi :: ti) (hj' : ops.toList.drop j = oj :: tj) (hk' : ops.toList.drop k = ok :: tk)
    (hr : (Region.ready md ops listed == [i, j, k]) = true) (hwi : Region.wanted oi (yielded ops a.tmps) = true) (hwj : Region.wanted oj (yielded ops a.tmps) = true) (hwk : Region.wanted ok (yielded ops a.tmps) = true)
    (h1 : ∀ w, S w → oi.wp P a w (fun a' w' => ∃ S', S' w' ∧ Stab S' ∧ (i ∈ js ∨ ∀ w, S' w → S w) ∧ wpAnyE P md ops Q js fuel (listed.setIfInBounds i true) a' S') Q)
    (h2 : ∀ w, S w → oj.wp P a w (fun a' w' => ∃ S', S' w' ∧ Stab S' ∧ (j ∈ js ∨ ∀ w, S' w → S w) ∧ wpAnyE P md ops Q js fuel (listed.setIfInBounds j true) a' S') Q)
    (h3 : ∀ w, S w → ok.wp P a w (fun a' w' => ∃ S', S' w' ∧ Stab S' ∧ (k ∈ js ∨ ∀ w, S' w → S w) ∧ wpAnyE P md ops Q js fuel (listed.setIfInBounds k true) a' S') Q) : wpAnyE P md ops Q js (fuel + 1) listed a S := by
  have hi : ops[i]? = some oi := by
    have := congrArg (·[0]?) hi'
    simpa using this
  have hj : ops[j]? = some oj := by
    have := congrArg (·[0]?) hj'
    simpa using this
  have hk : ops[k]? = some ok := by
    have := congrArg (·[0]?) hk'
    simpa using this
  simp only [beq_iff_eq] at hr
  refine ⟨fun h0 => (by rw [h0] at hr; cases hr), fun l hl w hS => ?_⟩
  rw [hr] at hl
  simp only [List.mem_cons, List.not_mem_nil, or_false] at hl
  rcases hl with rfl | rfl | rfl
  · unfold Go.wpOp
    simp only [hi, hwi, if_true]
    exact .inl (h1 w hS)
  · unfold Go.wpOp
    simp only [hj, hwj, if_true]
    exact .inl (h2 w hS)
  · unfold Go.wpOp
    simp only [hk, hwk, if_true]
    exact .inl (h3 w hS)
end

theorem Tri.cmp_anti (C T x y C2 T2 x2 y2 : Int) : Tri.cmp C T x y C2 T2 x2 y2 = -Tri.cmp C2 T2 x2 y2 C T x y := by
  unfold Tri.cmp Adv.sgn
  repeat' split
  all_goals omega
theorem Tri.cmp_self (C T x y : Int) : Tri.cmp C T x y C T x y = 0 := by
  unfold Tri.cmp Adv.sgn
  repeat' split
  all_goals omega
theorem Tri.cmp_bd (C T x y C2 T2 x2 y2 : Int) : -1 ≤ Tri.cmp C T x y C2 T2 x2 y2 ∧ Tri.cmp C T x y C2 T2 x2 y2 ≤ 1 := by
  unfold Tri.cmp Adv.sgn
  repeat' split
  all_goals omega
theorem Adv.sgn_le (a b : Int) : Adv.sgn a b ≤ 0 ↔ a ≤ b := by
  unfold Adv.sgn
  repeat' split
  all_goals omega
theorem Tri.cmp_le (C T x y C2 T2 x2 y2 : Int) : Tri.cmp C T x y C2 T2 x2 y2 ≤ 0 ↔ (y < y2 ∨ (y = y2 ∧ (x < x2 ∨ (x = x2 ∧ (C < C2 ∨ (C = C2 ∧ T ≤ T2)))))) := by
  unfold Tri.cmp
  split
  · rw [Adv.sgn_le]; omega
  · split
    · rw [Adv.sgn_le]; omega
    · split
      · rw [Adv.sgn_le]; omega
      · rw [Adv.sgn_le]; omega
theorem Tri.cmp_trans (C T x y C2 T2 x2 y2 C3 T3 x3 y3 : Int) (h : Tri.cmp C T x y C2 T2 x2 y2 ≤ 0) (h2 : Tri.cmp C2 T2 x2 y2 C3 T3 x3 y3 ≤ 0) : Tri.cmp C T x y C3 T3 x3 y3 ≤ 0 := by
  rw [Tri.cmp_le] at h h2 ⊢
  omega

theorem nones : ∀ i : Nat, ([none, none, none] : List (Option (Nat × Option (Array Value))))[i]? = some none ∨ ([none, none, none] : List (Option (Nat × Option (Array Value))))[i]? = none := by
  intro i
  match i with
  | 0 => exact .inl rfl
  | 1 => exact .inl rfl
  | 2 => exact .inl rfl
  | i + 3 => exact .inr rfl

end Go.Proofs.YtildjnibdappnaaGreat
