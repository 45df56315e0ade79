/- Acts of layer 17, that came in: a struct of a number and three structs. -/
import Derived.Test.YtapgcbjlgekpeaaJActs
import Derived.Test.YtapgcbjlgekpeaaJLaws17b
namespace Go.Proofs.Ytapgcbjlgekpeaa
open Go.ChangeShapes Go.WideShapes Go.ChangeAt Go.RowKit Go.Deep

section
variable {H : Type} {enc : TypeId × Value → H} {P : Program} {w : World} {base : Nat} {sp : Nat → Bool} {hd : Bool}
theorem nac_cells {t ti ts tp ta : TypeId} {fs fs2 fs6 fs5 : Array Field} {fuel : Nat} {cs : List Value} {x : DataW H × List MemPlace} (hs : P.underlying t = some (.struct fs)) (hC : P.cellsOf t = 14)
    (hl : (fs.toList.map fun f => (f.type, f.offset, P.cellsOf f.type)) = [(ti, 0, 1), (ts, 1, 2), (tp, 3, 6), (ta, 9, 5)]) (hi : P.underlying ti = some (.int .i64))
    (hs2 : P.underlying ts = some (.struct fs2)) (hone2 : oneCellFields P fs2 = true) (hC2 : P.cellsOf ts = fs2.size) (h2 : fs2.size = 2) (hk2 : (fs2.toList.map fun f => P.underlying f.type) = List.replicate fs2.size (some (.int .i64)))
    (hs6 : P.underlying tp = some (.struct fs6)) (hone6 : oneCellFields P fs6 = true) (hC6 : P.cellsOf tp = fs6.size) (h6 : fs6.size = 6) (hk6 : (fs6.toList.map fun f => P.underlying f.type) = List.replicate fs6.size (some (.int .i64)))
    (hs5 : P.underlying ta = some (.struct fs5)) (hone5 : oneCellFields P fs5 = true) (hC5 : P.cellsOf ta = fs5.size) (h5 : fs5.size = 5) (hk5 : (fs5.toList.map fun f => P.underlying f.type) = List.replicate fs5.size (some (.int .i64)))
    (h : DataW.trod enc P w base sp hd fuel t cs = some x) :
    ∃ l : List Int, l.length = 14 ∧ cs = l.map (Value.int .i64) ∧ (∀ a ∈ l, (Lit.int .i64 a).wf = true) ∧ x.2 = [] := by
  obtain ⟨xs, n, _, rfl, hcl, hlen, hf⟩ := DataW.trod_struct hs h
  have hsz : fs.size = 4 := by
    have := congrArg List.length hl
    simpa using this
  have ty : ∀ j (hj : j < fs.size), some (fs[j].type, fs[j].offset, P.cellsOf fs[j].type) = ([(ti, 0, 1), (ts, 1, 2), (tp, 3, 6), (ta, 9, 5)] : List (TypeId × Nat × Nat))[j]? := by
    intro j hj
    have := congrArg (fun l : List (TypeId × Nat × Nat) => l[j]?) hl
    simpa [hj] using this
  have g0 := hf 0 _ (Array.getElem?_eq_getElem (by omega : 0 < fs.size))
  have g1 := hf 1 _ (Array.getElem?_eq_getElem (by omega : 1 < fs.size))
  have g2 := hf 2 _ (Array.getElem?_eq_getElem (by omega : 2 < fs.size))
  have g3 := hf 3 _ (Array.getElem?_eq_getElem (by omega : 3 < fs.size))
  have t0 := ty 0 (by omega)
  have t1 := ty 1 (by omega)
  have t2 := ty 2 (by omega)
  have t3 := ty 3 (by omega)
  simp only [List.getElem?_cons_zero, List.getElem?_cons_succ, Option.some.injEq, Prod.mk.injEq] at t0 t1 t2 t3
  obtain ⟨t0a, t0b, t0c⟩ := t0
  obtain ⟨t1a, t1b, t1c⟩ := t1
  obtain ⟨t2a, t2b, t2c⟩ := t2
  obtain ⟨t3a, t3b, t3c⟩ := t3
  rw [t0b, t0c, t0a] at g0
  rw [t1b, t1c, t1a] at g1
  rw [t2b, t2c, t2a] at g2
  rw [t3b, t3c, t3a] at g3
  have hc3 : cs.length = 14 := hcl.trans hC
  match cs, hc3 with
  | [c0, c1, c2, c3, c4, c5, c6, c7, c8, c9, c10, c11, c12, c13], _ =>
    rw [show xs[0]? = some (xs[0]'(by omega)) from List.getElem?_eq_getElem (by omega)] at g0
    rw [show xs[1]? = some (xs[1]'(by omega)) from List.getElem?_eq_getElem (by omega)] at g1
    rw [show xs[2]? = some (xs[2]'(by omega)) from List.getElem?_eq_getElem (by omega)] at g2
    rw [show xs[3]? = some (xs[3]'(by omega)) from List.getElem?_eq_getElem (by omega)] at g3
    obtain ⟨a, e1, e2, e3⟩ := DataW.trod_int hi g0
    obtain ⟨l, k1, k2, k3, k4⟩ := struct_ints hs2 hone2 hC2 hk2 g1
    obtain ⟨m, m1, m2, m3, m4⟩ := struct_ints hs6 hone6 hC6 hk6 g2
    obtain ⟨o, o1, o2, o3, o4⟩ := struct_ints hs5 hone5 hC5 hk5 g3
    rw [h2] at k1
    rw [h6] at m1
    rw [h5] at o1
    match l, k1, m, m1, o, o1 with
    | [y1, y2], _, [y3, y4, y5, y6, y7, y8], _, [y9, y10, y11, y12, y13], _ =>
      simp only [List.drop_zero, List.take_succ_cons, List.take_zero, List.cons.injEq, and_true] at e1
      simp only [List.drop_succ_cons, List.drop_zero, List.take_succ_cons, List.take_zero, List.map_cons, List.map_nil, List.cons.injEq, and_true] at k2 m2 o2
      obtain ⟨p1, p2⟩ := k2
      obtain ⟨p3, p4, p5, p6, p7, p8⟩ := m2
      obtain ⟨p9, p10, p11, p12, p13⟩ := o2
      refine ⟨[a, y1, y2, y3, y4, y5, y6, y7, y8, y9, y10, y11, y12, y13], rfl, by simp only [e1, p1, p2, p3, p4, p5, p6, p7, p8, p9, p10, p11, p12, p13, List.map_cons, List.map_nil], fun b hb => ?_, ?_⟩
      · rcases List.mem_cons.1 hb with rfl | hb
        · exact e3
        · have : b ∈ [y1, y2] ++ [y3, y4, y5, y6, y7, y8] ++ [y9, y10, y11, y12, y13] := hb
          rcases List.mem_append.1 this with hb | hb
          · rcases List.mem_append.1 hb with hb | hb
            · exact k3 b hb
            · exact m3 b hb
          · exact o3 b hb
      · have hx2 : xs.length = 4 := by omega
        match xs, hx2 with
        | [x0, x1, x2, x3], _ =>
          have q0 : x0.2 = [] := by have := e2; simpa using congrArg Prod.snd this
          have q1 : x1.2 = [] := by simpa using k4
          have q2 : x2.2 = [] := by simpa using m4
          have q3 : x3.2 = [] := by simpa using o4
          simp [q0, q1, q2, q3]
end
structure Nac.In (a : Nac) : Prop where
  k : I64 a.k
  s : a.s.In
  p : a.p.In
  a : a.a.In
def Nac.list (a : Nac) : List Int := [a.k, a.s.tick, a.s.val, a.p.mn, a.p.mx, a.p.tg, a.p.tl, a.p.wi, a.p.ho, a.a.tick, a.a.load, a.a.want, a.a.repl, a.a.why]
theorem nac_of_list (l : List Int) (n : l.length = 14) (h : ∀ a ∈ l, (Lit.int .i64 a).wf = true) : ∃ a : Nac, l = a.list ∧ a.In := by
  match l, n with
  | [a0, a1, a2, a3, a4, a5, a6, a7, a8, a9, a10, a11, a12, a13], _ =>
    have g : ∀ a ∈ [a0, a1, a2, a3, a4, a5, a6, a7, a8, a9, a10, a11, a12, a13], I64 a := fun a ha => I64.of_wf (h a ha)
    exact ⟨⟨a0, ⟨a1, a2⟩, ⟨a3, a4, a5, a6, a7, a8⟩, ⟨a9, a10, a11, a12, a13⟩⟩, rfl, g _ (by simp), ⟨g _ (by simp), g _ (by simp)⟩, ⟨g _ (by simp), g _ (by simp), g _ (by simp), g _ (by simp), g _ (by simp), g _ (by simp)⟩, ⟨g _ (by simp), g _ (by simp), g _ (by simp), g _ (by simp), g _ (by simp)⟩⟩
instance : Inhabited Nac := ⟨⟨0, ⟨0, 0⟩, ⟨0, 0, 0, 0, 0, 0⟩, ⟨0, 0, 0, 0, 0⟩⟩⟩
def Nacs (w : World) (p : Option Addr) (l : List Nac) : Prop := Sl w p l.length 14 (fun j => .int .i64 (((l[j / 14]?.getD default).list[j % 14]?).getD 0))
theorem Nacs.below {w w' : World} {p : Option Addr} {l : List Nac} (h : Nacs w p l) (hb : Below w.heap.size w w') : Nacs w' p l := Sl.below h hb
theorem Nacs.cells {w : World} {p : Option Addr} {l : List Nac} (h : Nacs w p l) (k : Nat) (hk : k < l.length) :
    ∃ b off, p = some ⟨b, off, none⟩ ∧ b < w.heap.size ∧ ∀ i, i < 14 → w.cell? ⟨b, off + k * 14 + i, none⟩ = some (.int .i64 (((l[k]?.getD default).list[i]?).getD 0)) := by
  obtain ⟨b, off, hp, hb, hc⟩ := Sl.pos h (by omega)
  refine ⟨b, off, hp, hb, fun i hi => ?_⟩
  have := hc (k * 14 + i) (by omega)
  rw [← Nat.add_assoc, show (k * 14 + i) / 14 = k by omega, show (k * 14 + i) % 14 = i by omega] at this
  exact this
theorem nacs_of_rows {w : World} {p : Option Addr} (l : List (List Int)) (h : Go.Proofs.Ytapgcbjlgekpeaa.Rows .i64 14 w p l) (hr : ∀ r ∈ l, r.length = 14 ∧ ∀ a ∈ r, (Lit.int .i64 a).wf = true) : ∃ m : List Nac, l = m.map Nac.list ∧ Nacs w p m ∧ ∀ a ∈ m, a.In := by
  have key : ∀ r ∈ l, ∃ a : Nac, r = a.list ∧ a.In := fun r hr' => nac_of_list r (hr r hr').1 (hr r hr').2
  have all : ∃ m : List Nac, l = m.map Nac.list ∧ ∀ a ∈ m, a.In := by
    clear h hr
    induction l with
    | nil => exact ⟨[], rfl, by simp⟩
    | cons r l ih =>
      obtain ⟨m, hm, hi⟩ := ih (fun r hr => key r (by simp [hr]))
      obtain ⟨a, ha, hai⟩ := key r (by simp)
      exact ⟨a :: m, by rw [ha, hm]; rfl, by intro b hb; rcases List.mem_cons.1 hb with rfl | hb; exact hai; exact hi b hb⟩
  obtain ⟨m, rfl, hi⟩ := all
  refine ⟨m, rfl, ?_, hi⟩
  unfold Go.Proofs.Ytapgcbjlgekpeaa.Rows at h
  rw [List.length_map] at h
  rcases h with h | ⟨b, off, hp, hb, hc⟩
  · exact .inl h
  · refine .inr ⟨b, off, hp, hb, fun j hj => ?_⟩
    rw [hc j hj]
    have hq : j / 14 < m.length := by omega
    simp only [List.getElem?_map, List.getElem?_eq_getElem hq, Option.map_some, Option.getD_some]
theorem cfg_of_list (l : List Int) (n : l.length = 4) (h : ∀ a ∈ l, (Lit.int .i64 a).wf = true) : ∃ c : Cfg, l = [c.st, c.sa, c.lo, c.hi] ∧ c.In := by
  match l, n with
  | [a0, a1, a2, a3], _ => exact ⟨⟨a0, a1, a2, a3⟩, rfl, I64.of_wf (h _ (by simp)), I64.of_wf (h _ (by simp)), I64.of_wf (h _ (by simp)), I64.of_wf (h _ (by simp))⟩
section
variable {H : Type} {enc : TypeId × Value → H} {P : Program} {w : World} {base : Nat} {sp : Nat → Bool} {hd : Bool}
/-- A struct all of whose cells are numbers. -/
theorem open_structG {r : Reach} {b0 : Nat} {t : TypeId} {fs : Array Field} {v : Value} {d : DataW H} {ps : List MemPlace} (N : Nat) (hs : P.underlying t = some (.struct fs))
    (hrow0 : ∀ fuel cs x, DataW.trod enc P w base sp hd fuel t cs = some x → ∃ l : List Int, l.length = N ∧ cs = l.map (Value.int .i64) ∧ (∀ a ∈ l, (Lit.int .i64 a).wf = true) ∧ x.2 = []) (hv : Value.okWide P w r b0 t v) (h : DataW.Trod enc P w base sp hd t v d ps) :
    ∃ l : List Int, l.length = N ∧ v = .agg (l.map (Value.int .i64)).toArray ∧ (∀ a ∈ l, (Lit.int .i64 a).wf = true) ∧ ps = [] := by
  obtain ⟨cs, rfl, hsz⟩ := okWide_struct hs hv
  obtain ⟨fuel, hf⟩ := h
  obtain ⟨l, h1, h2, h3, h4⟩ := hrow0 _ _ _ hf
  refine ⟨l, h1, ?_, h3, h4⟩
  rw [← h2]
  simp [Value.cells]
end
end Go.Proofs.Ytapgcbjlgekpeaa
