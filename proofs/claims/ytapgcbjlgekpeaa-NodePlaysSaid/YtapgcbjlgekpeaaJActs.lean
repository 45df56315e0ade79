/- Slices of structs that hold structs: acts of layer 8. -/
import Derived.Test.YtapgcbjlgekpeaaJBase
import Derived.Test.YtapgcbjlgekpeaaJSer11
namespace Go.Proofs.Ytapgcbjlgekpeaa
open Go.ChangeShapes Go.WideShapes Go.ChangeAt Go.RowKit Go.Deep

section
variable {H : Type} {enc : TypeId × Value → H} {P : Program} {w : World} {base : Nat} {sp : Nat → Bool} {hd : Bool}
theorem open_RowsG {r : Reach} {b0 : Nat} {t e : TypeId} {k : IntKind} {v : Value} {d : DataW H} {ps : List MemPlace} (N : Nat) (ht : P.underlying t = some (.slice e)) (hC : P.cellsOf e = N) (hpos : 0 < N) (hrow0 : ∀ fuel cs x, DataW.trod enc P w base sp hd fuel e cs = some x → ∃ l : List Int, l.length = N ∧ cs = l.map (Value.int k) ∧ (∀ a ∈ l, (Lit.int k a).wf = true) ∧ x.2 = []) (hv : Value.okWide P w r b0 t v) (h : DataW.Trod enc P w base sp hd t v d ps) (hlt : ∀ x ∈ ps, x.block < w.heap.size) :
    ∃ (p : Option Addr) (cap : Nat) (l : List (List Int)), v = .slice p l.length cap ∧ Rows k N w p l ∧ (∀ r ∈ l, r.length = N ∧ ∀ a ∈ r, (Lit.int k a).wf = true) ∧ l.length ≤ 9223372036854775807 := by
  obtain ⟨a0, len0, cap0, rfl⟩ := okWide_slice ht hv
  obtain ⟨fuel, hf⟩ := h
  rcases open_slice ht hf with ⟨hcs, hx⟩ | ⟨a, len, cap, m, n, D, Pl, hcs, _, hl, hm, hmm, hx, hi⟩
  · simp [Value.cells] at hcs
    obtain ⟨rfl, rfl, rfl⟩ := hcs
    exact ⟨none, 0, [], rfl, Or.inl rfl, by simp, by simp⟩
  · simp [Value.cells] at hcs
    obtain ⟨rfl, rfl, rfl⟩ := hcs
    simp only [Prod.mk.injEq] at hx
    obtain ⟨_, hps⟩ := hx
    unfold maxLen at hm
    have hml : len0 ≤ m := by rw [hmm]; split <;> omega
    have row : ∀ i, i < len0 → ∃ r : List Int, r.length = N ∧ (∀ b ∈ r, (Lit.int k b).wf = true) ∧ ∀ j, j < N → w.cell? (a.add (i * N + j)) = some (.int k (r[j]?.getD 0)) := by
      intro i hil
      obtain ⟨cs', hc, hr⟩ := hi i (by omega)
      rw [hC] at hc
      obtain ⟨l, h1, h2, h3, _⟩ := hrow0 _ _ _ hr
      obtain ⟨_, hcl, hat⟩ := World.cells?_some hc
      refine ⟨l, h1, h3, fun j hj => ?_⟩
      have := hat j hj
      rw [add_add] at this
      rw [this, h2]
      simp [List.getElem?_eq_getElem (show j < l.length by omega)]
    have rows : ∃ l : List (List Int), l.length = len0 ∧ ∀ i (hi : i < len0), ∃ r, l[i]? = some r ∧ r.length = N ∧ (∀ b ∈ r, (Lit.int k b).wf = true) ∧ ∀ j, j < N → w.cell? (a.add (i * N + j)) = some (.int k (r[j]?.getD 0)) := by
      refine ⟨(List.range len0).attach.map fun i => (row i.1 (List.mem_range.1 i.2)).choose, by simp, fun i hil => ?_⟩
      refine ⟨_, ?_, (row i hil).choose_spec⟩
      simp [hil]
    obtain ⟨l, hll, hrow⟩ := rows
    refine ⟨some a, cap0, l, by rw [hll], ?_, ?_, by omega⟩
    · unfold Rows
      rw [hll]
      by_cases h0 : len0 = 0
      · exact Or.inl h0
      · obtain ⟨r0, _, _, _, hc0⟩ := hrow 0 (by omega)
        have h1 := hc0 0 hpos
        have hspot : a.spot = none := by
          cases hsp : a.spot with
          | none => rfl
          | some s =>
            exfalso
            unfold World.cell? at h1
            simp only [Addr.add, Nat.zero_mul, Nat.add_zero, if_true] at h1
            split at h1 <;> simp [hsp] at h1
        obtain ⟨b, off, s⟩ := a
        subst hspot
        have hadd : ∀ z, (⟨b, off, none⟩ : Addr).add z = ⟨b, off + z, none⟩ := by
          intro z
          unfold Addr.add
          split
          · rename_i h; subst h; rfl
          · rfl
        refine Or.inr ⟨b, off, rfl, ?_, fun j hj => ?_⟩
        · refine hlt (.cell b off) ?_
          rw [hps, List.mem_append]
          left
          unfold MemPlace.row
          simp only [List.mem_map, List.mem_range]
          refine ⟨0, ?_, by simp⟩
          rw [hC]
          exact Nat.mul_pos (by omega) hpos
        · have hq : j / N < len0 := Nat.div_lt_of_lt_mul (by rw [Nat.mul_comm]; exact hj)
          obtain ⟨r, hr1, _, _, hr4⟩ := hrow (j / N) hq
          have := hr4 (j % N) (Nat.mod_lt _ hpos)
          rw [hadd, Nat.div_add_mod'] at this
          show _ = some (Value.int k ((l[j / N]?.getD [])[j % N]?.getD 0))
          rw [this, hr1]
          rfl
    · intro r hr
      obtain ⟨i, hil, rfl⟩ := List.mem_iff_getElem.1 hr
      obtain ⟨r', h1, h2, h3, _⟩ := hrow i (by omega)
      rw [List.getElem?_eq_getElem hil] at h1
      simp only [Option.some.injEq] at h1
      rw [h1]
      exact ⟨h2, h3⟩

/-- A struct of a whole number and a struct of two. -/
theorem act_cells {t ti ts : TypeId} {fs fs2 : Array Field} {fuel : Nat} {cs : List Value} {x : DataW H × List MemPlace} (hs : P.underlying t = some (.struct fs)) (hC : P.cellsOf t = 3)
    (hl : (fs.toList.map fun f => (f.type, f.offset, P.cellsOf f.type)) = [(ti, 0, 1), (ts, 1, 2)]) (hi : P.underlying ti = some (.int .i64)) (hs2 : P.underlying ts = some (.struct fs2)) (hone2 : oneCellFields P fs2 = true) (hC2 : P.cellsOf ts = fs2.size) (h2 : fs2.size = 2)
    (hk2 : (fs2.toList.map fun f => P.underlying f.type) = List.replicate fs2.size (some (.int .i64))) (h : DataW.trod enc P w base sp hd fuel t cs = some x) :
    ∃ l : List Int, l.length = 3 ∧ cs = l.map (Value.int .i64) ∧ (∀ a ∈ l, (Lit.int .i64 a).wf = true) ∧ x.2 = [] := by
  obtain ⟨xs, n, _, rfl, hcl, hlen, hf⟩ := DataW.trod_struct hs h
  have hsz : fs.size = 2 := by
    have := congrArg List.length hl
    simpa using this
  have ty : ∀ j (hj : j < fs.size), some (fs[j].type, fs[j].offset, P.cellsOf fs[j].type) = ([(ti, 0, 1), (ts, 1, 2)] : List (TypeId × Nat × Nat))[j]? := by
    intro j hj
    have := congrArg (fun l : List (TypeId × Nat × Nat) => l[j]?) hl
    simpa [hj] using this
  have g0 := hf 0 _ (Array.getElem?_eq_getElem (by omega : 0 < fs.size))
  have g1 := hf 1 _ (Array.getElem?_eq_getElem (by omega : 1 < fs.size))
  have t0 := ty 0 (by omega)
  have t1 := ty 1 (by omega)
  simp only [List.getElem?_cons_zero, List.getElem?_cons_succ, Option.some.injEq, Prod.mk.injEq] at t0 t1
  obtain ⟨t0a, t0b, t0c⟩ := t0
  obtain ⟨t1a, t1b, t1c⟩ := t1
  rw [t0b, t0c, t0a] at g0
  rw [t1b, t1c, t1a] at g1
  have hc3 : cs.length = 3 := hcl.trans hC
  match cs, hc3 with
  | [c0, c1, c2], _ =>
    rw [show xs[0]? = some (xs[0]'(by omega)) from List.getElem?_eq_getElem (by omega)] at g0
    rw [show xs[1]? = some (xs[1]'(by omega)) from List.getElem?_eq_getElem (by omega)] at g1
    obtain ⟨a, e1, e2, e3⟩ := DataW.trod_int hi g0
    obtain ⟨l, k1, k2, k3, k4⟩ := struct_ints hs2 hone2 hC2 hk2 g1
    rw [h2] at k1
    match l, k1 with
    | [y, z], _ =>
      simp only [List.drop_zero, List.take_succ_cons, List.take_zero, List.cons.injEq, and_true] at e1
      simp only [List.drop_succ_cons, List.drop_zero, List.take_succ_cons, List.take_zero, List.map_cons, List.map_nil, List.cons.injEq, and_true] at k2
      refine ⟨[a, y, z], rfl, by simp [e1, k2.1, k2.2], fun b hb => ?_, ?_⟩
      · rcases List.mem_cons.1 hb with rfl | hb
        · exact e3
        · exact k3 b hb
      · have hx2 : xs.length = 2 := by omega
        match xs, hx2 with
        | [x0, x1], _ =>
          have q0 : x0.2 = [] := by have := e2; simpa using congrArg Prod.snd this
          have q1 : x1.2 = [] := by simpa using k4
          simp [q0, q1]
end

/-- What is done to a series. -/
structure Act8 where
  kind : Int
  tick : Int
  val : Int
deriving Inhabited
def Act8.get (a : Act8) : Nat → Int
  | 0 => a.kind
  | 1 => a.tick
  | _ => a.val
def Act8.x (a : Act8) : Samp := ⟨a.tick, a.val⟩
def Act8.row (a : Act8) : List Int := [a.kind, a.tick, a.val]
def Acts (w : World) (p : Option Addr) (l : List Act8) : Prop := Sl w p l.length 3 (fun j => .int .i64 ((l[j / 3]?.getD default).get (j % 3)))
theorem Acts.below {w w' : World} {p : Option Addr} {l : List Act8} (h : Acts w p l) (hb : Below w.heap.size w w') : Acts w' p l := Sl.below h hb
theorem Acts.cells {w : World} {p : Option Addr} {l : List Act8} (h : Acts w p l) (k : Nat) (hk : k < l.length) :
    ∃ b off, p = some ⟨b, off, none⟩ ∧ b < w.heap.size ∧ w.cell? ⟨b, off + k * 3, none⟩ = some (.int .i64 (l[k]?.getD default).kind) ∧ w.cell? ⟨b, off + k * 3 + 1, none⟩ = some (.int .i64 (l[k]?.getD default).tick) ∧ w.cell? ⟨b, off + k * 3 + 2, none⟩ = some (.int .i64 (l[k]?.getD default).val) := by
  obtain ⟨b, off, hp, hb, hc⟩ := Sl.pos h (by omega)
  have key : ∀ i, i < 3 → w.cell? ⟨b, off + k * 3 + i, none⟩ = some (.int .i64 ((l[k]?.getD default).get i)) := by
    intro i hi
    have := hc (k * 3 + i) (by omega)
    rw [← Nat.add_assoc, show (k * 3 + i) / 3 = k by omega, show (k * 3 + i) % 3 = i by omega] at this
    exact this
  exact ⟨b, off, hp, hb, key 0 (by omega), key 1 (by omega), key 2 (by omega)⟩
theorem acts_of_rows {w : World} {p : Option Addr} (l : List (List Int)) (h : Go.Proofs.Ytapgcbjlgekpeaa.Rows .i64 3 w p l) (hr : ∀ r ∈ l, r.length = 3 ∧ ∀ a ∈ r, (Lit.int .i64 a).wf = true) : ∃ m : List Act8, l = m.map Act8.row ∧ Acts w p m ∧ ∀ a ∈ m, I64 a.kind ∧ a.x.In := by
  have key : ∀ r ∈ l, ∃ a : Act8, r = a.row ∧ I64 a.kind ∧ a.x.In := by
    intro r hr'
    obtain ⟨h5, hw⟩ := hr r hr'
    match r, h5 with
    | [a, b, c], _ => exact ⟨⟨a, b, c⟩, rfl, I64.of_wf (hw a (by simp)), I64.of_wf (hw b (by simp)), I64.of_wf (hw c (by simp))⟩
  have all : ∃ m : List Act8, l = m.map Act8.row ∧ ∀ a ∈ m, I64 a.kind ∧ a.x.In := by
    clear h hr
    induction l with
    | nil => exact ⟨[], rfl, by simp⟩
    | cons r l ih =>
      obtain ⟨m, hm, hi⟩ := ih (fun r hr => key r (by simp [hr]))
      obtain ⟨a, ha, hai⟩ := key r (by simp)
      exact ⟨a :: m, by rw [ha, hm]; rfl, by intro b hb; rcases List.mem_cons.1 hb with rfl | hb; exact hai; exact hi b hb⟩
  obtain ⟨m, rfl, hi⟩ := all
  refine ⟨m, rfl, ?_, hi⟩
  unfold Go.Proofs.Ytapgcbjlgekpeaa.Rows at h
  rw [List.length_map] at h
  rcases h with h | ⟨b, off, hp, hb, hc⟩
  · exact .inl h
  · refine .inr ⟨b, off, hp, hb, fun j hj => ?_⟩
    rw [hc j hj]
    have hq : j / 3 < m.length := by omega
    have hm : j % 3 < 3 := Nat.mod_lt _ (by omega)
    simp only [List.getElem?_map, List.getElem?_eq_getElem hq, Option.map_some, Option.getD_some]
    generalize j % 3 = i at hm
    match i, hm with
    | 0, _ => rfl
    | 1, _ => rfl
    | 2, _ => rfl
end Go.Proofs.Ytapgcbjlgekpeaa
