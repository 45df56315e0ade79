/- Equality of structs, as one step; equality of rows of bools. -/
/- Equality of structs, as one step; equality of rows of bools. -/
import Derived.Test.YtildjnibdappnaaNum
import Derived.Stop.BytesEq
namespace Go.Proofs.Ytildjnibdappnaa
open Go.ChangeShapes Go.WideShapes Go.ChangeAt Go.RowKit

section
variable {P : Program} {ops : Array Oper} {rest : List Oper} {o : Oper} {a : Act} {w : World} {Q : Exit → Act → World → Prop}

theorem wp_eql_agg {K : Act → World → Prop} (t yt : TypeId) (x y : Operand) (ho : o.op = .binOp .eql t x y yt) (xs ys : Array Value) (hx : a.eval x = .agg xs) (hy : a.eval y = .agg ys)
    (b : Bool) (hm : P.eqGuardType P.depth t = false) (hb : (Op.equalIn 10000 t (.agg xs) (.agg ys)).run P w = .ok b w)
    (h : K (a.put o.dst (.bool b)) w) : o.wp P a w K Q := by
  unfold Oper.wp execOp
  simp only [ho, hx, hy, Sem.run_bind, run_eqGuard_agg w _ _ _ _ _ _ hm, Result.andThen_ok, run_eql_struct, hb]
  exact h

theorem wpList_eql_agg (hgd : o.guard = none) (t yt : TypeId) (x y : Operand) (ho : o.op = .binOp .eql t x y yt) (xs ys : Array Value) (hx : a.eval x = .agg xs) (hy : a.eval y = .agg ys)
    (b : Bool) (hm : P.eqGuardType P.depth t = false) (hb : (Op.equalIn 10000 t (.agg xs) (.agg ys)).run P w = .ok b w)
    (h : wpList P ops Q rest (a.put o.dst (.bool b)) w) : wpList P ops Q (o :: rest) a w :=
  wpList_plain hgd fun _ hK => wp_eql_agg t yt x y ho xs ys hx hy b hm hb (hK _ _ h)

theorem wp_neq_agg {K : Act → World → Prop} (t yt : TypeId) (x y : Operand) (ho : o.op = .binOp .neq t x y yt) (xs ys : Array Value) (hx : a.eval x = .agg xs) (hy : a.eval y = .agg ys)
    (b : Bool) (hm : P.eqGuardType P.depth t = false) (hb : (Op.equalIn 10000 t (.agg xs) (.agg ys)).run P w = .ok b w)
    (h : K (a.put o.dst (.bool (!b))) w) : o.wp P a w K Q := by
  unfold Oper.wp execOp
  simp only [ho, hx, hy, Sem.run_bind, run_eqGuard_agg w _ _ _ _ _ _ hm, Result.andThen_ok, run_neq_struct, hb]
  exact h

theorem wpList_neq_agg (hgd : o.guard = none) (t yt : TypeId) (x y : Operand) (ho : o.op = .binOp .neq t x y yt) (xs ys : Array Value) (hx : a.eval x = .agg xs) (hy : a.eval y = .agg ys)
    (b : Bool) (hm : P.eqGuardType P.depth t = false) (hb : (Op.equalIn 10000 t (.agg xs) (.agg ys)).run P w = .ok b w)
    (h : wpList P ops Q rest (a.put o.dst (.bool (!b))) w) : wpList P ops Q (o :: rest) a w :=
  wpList_plain hgd fun _ hK => wp_neq_agg t yt x y ho xs ys hx hy b hm hb (hK _ _ h)

/-- A row of bools is equal to itself. -/
theorem run_equalIn_bools (d : Nat) (t e : TypeId) (n : Nat) (ht : P.underlying t = some (.array n e)) (he : P.underlying e = some .bool) (hsz : ∀ w, (sizeOf e).run P w = .ok 1 w)
    (f : Nat → Bool) (w : World) :
    (Op.equalIn (d + 2) t (.agg (Bits.row n f)) (.agg (Bits.row n f))).run P w = .ok true w := by
  rw [Op.equalIn]
  simp only [Sem.run_bind, run_underlying ht, Result.andThen_ok, hsz, Std.Legacy.Range.forIn_eq_forIn_range', Std.Legacy.Range.size, Nat.sub_zero, Nat.add_sub_cancel, Nat.div_one]
  have hl : ∀ i ∈ List.range' 0 n 1, i < n := fun i hi => by simpa using (List.mem_range'_1.1 hi).2
  generalize List.range' 0 n 1 = l at hl ⊢
  induction l with
  | nil => simp
  | cons i l ih =>
    have hi : i < n := hl i (by simp)
    have px : (part e (Bits.row n f) (i * 1)).run P w = .ok (.bool (f i)) w := by
      simp [part, isAgg, run_underlying he, Bits.row_get n f i hi]
    have pe : (Op.equalIn (d + 1) e (.bool (f i)) (.bool (f i))).run P w = .ok true w := by
      rw [run_equalIn_bool' w d e _ _ he]
      simp
    simp only [List.forIn_cons, Sem.run_bind, px, pe, Result.andThen_ok, Bool.not_true, Bool.false_eq_true, if_false, Sem.run_pure]
    exact ih fun j hj => hl j (by simp [hj])
end

/-- The places of a struct's fields. -/
theorem fields_one' {L : List Field} {u : TypeId} {k : Nat} (h : (L.map fun f => (f.type, f.offset, f.name == "_")) = [(u, k, false)]) : ∃ f, L = [f] ∧ f.type = u ∧ f.offset = k ∧ f.name ≠ "_" := by
  cases L with
  | nil => simp at h
  | cons f L =>
    cases L with
    | nil =>
      simp only [List.map_cons, List.map_nil, List.cons.injEq, Prod.mk.injEq, and_true] at h
      exact ⟨f, rfl, h.1, h.2.1, fun e => by rw [e] at h; exact absurd h.2.2 (by decide)⟩
    | cons g L => simp at h

theorem num_part (x : Nat) (w : World) : (part 153 (Bits.num x) 0).run Try.prog w = .ok (.agg (Bits.num x)) w := by
  have hs : (sizeOf 153).run Try.prog w = .ok 128 w := by kernel_rfl
  have hx : (Bits.num x).extract 0 128 = Bits.num x := by rw [← Bits.num_size x]; exact Array.extract_size
  rw [part]
  simp only [Sem.run_bind, isAgg, run_underlying Try.underlying153, Result.andThen_ok, Sem.run_pure, if_true, hs, Nat.zero_add, hx]
theorem num_row_equal (d : Nat) (x : Nat) (w : World) : (Op.equalIn (d + 2) 153 (.agg (Bits.num x)) (.agg (Bits.num x))).run Try.prog w = .ok true w := by
  unfold Bits.num
  exact run_equalIn_bools (P := Try.prog) d 153 4 128 Try.underlying153 Try.underlying4 (fun w => by kernel_rfl) x.testBit w
theorem eqFields_one {P : Program} {w : World} {d : Nat} {xs ys : Array Value} {f : Field} {u : TypeId} {k : Nat} {x y : Value} {b : Bool} (h1 : f.type = u) (h2 : f.offset = k) (h3 : f.name ≠ "_")
    (hx : (part u xs k).run P w = .ok x w) (hy : (part u ys k).run P w = .ok y w) (he : (Op.equalIn d u x y).run P w = .ok b w) : (Op.eqFields d xs ys [f]).run P w = .ok b w := by
  subst h1 h2
  cases b <;> simp [Op.eqFields, h3, hx, hy, he]
theorem num_equal' (d : Nat) (x : Nat) (w : World) : (Op.equalIn (d + 2 + 1) 155 (.agg (Bits.num x)) (.agg (Bits.num x))).run Try.prog w = .ok true w := by
  obtain ⟨f, hf, h1, h2, h3⟩ := fields_one' (L := (Try.prog.fieldsOf 155).toList) (u := 153) (k := 0) (by kernel_rfl)
  have h := run_equalIn_struct (P := Try.prog) w (d + 2) 155 (Bits.num x) (Bits.num x) (by kernel_rfl) (by kernel_rfl)
  rw [hf, eqFields_one h1 h2 h3 (num_part x w) (num_part x w) (num_row_equal d x w)] at h
  exact h
theorem num_equal (x : Nat) (w : World) : (Op.equalIn 10000 155 (.agg (Bits.num x)) (.agg (Bits.num x))).run Try.prog w = .ok true w := num_equal' 9997 x w
end Go.Proofs.Ytildjnibdappnaa
