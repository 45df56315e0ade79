/- == of structs, behind a guard; decisions and samples compared. -/
import Derived.Test.YtildjnibdappnaaEq
import Derived.Test.YtildjnibdappnaaAdv
namespace Go.Proofs.Ytildjnibdappnaa
open Go.ChangeShapes Go.WideShapes Go.ChangeAt Go.RowKit
section
variable {P : Program} {ops : Array Oper} {rest : List Oper} {o : Oper} {a : Act} {w : World} {Q : Exit → Act → World → Prop}
theorem wpList_eql_aggG (hw : Region.wanted o (yielded ops a.tmps) = true) (t yt : TypeId) (x y : Operand) (ho : o.op = .binOp .eql t x y yt) (xs ys : Array Value) (hx : a.eval x = .agg xs) (hy : a.eval y = .agg ys)
    (b : Bool) (hm : P.eqGuardType P.depth t = false) (hb : (Op.equalIn 10000 t (.agg xs) (.agg ys)).run P w = .ok b w)
    (h : wpList P ops Q rest (a.put o.dst (.bool b)) w) : wpList P ops Q (o :: rest) a w :=
  BigFrame.wpList_want hw fun _ hK => wp_eql_agg t yt x y ho xs ys hx hy b hm hb (hK _ _ h)
theorem wpList_neq_aggG (hw : Region.wanted o (yielded ops a.tmps) = true) (t yt : TypeId) (x y : Operand) (ho : o.op = .binOp .neq t x y yt) (xs ys : Array Value) (hx : a.eval x = .agg xs) (hy : a.eval y = .agg ys)
    (b : Bool) (hm : P.eqGuardType P.depth t = false) (hb : (Op.equalIn 10000 t (.agg xs) (.agg ys)).run P w = .ok b w)
    (h : wpList P ops Q rest (a.put o.dst (.bool (!b))) w) : wpList P ops Q (o :: rest) a w :=
  BigFrame.wpList_want hw fun _ hK => wp_neq_agg t yt x y ho xs ys hx hy b hm hb (hK _ _ h)
end
theorem adv_equal_yes (a : Adv) (w : World) : (Op.equalIn 10000 24 (.agg #[.int .i64 a.tick, .int .i64 a.load, .int .i64 a.want, .int .i64 a.repl, .int .i64 a.why]) (.agg #[.int .i64 a.tick, .int .i64 a.load, .int .i64 a.want, .int .i64 a.repl, .int .i64 a.why])).run Try.prog w = .ok true w := by
  simp [go_sem]
theorem adv_equal (a b : Adv) (w : World) : (Op.equalIn 10000 24 (.agg #[.int .i64 a.tick, .int .i64 a.load, .int .i64 a.want, .int .i64 a.repl, .int .i64 a.why]) (.agg #[.int .i64 b.tick, .int .i64 b.load, .int .i64 b.want, .int .i64 b.repl, .int .i64 b.why])).run Try.prog w = .ok (decide (a = b)) w := by
  by_cases h : a = b
  · subst h
    rw [decide_eq_true rfl]
    exact adv_equal_yes a w
  · rw [decide_eq_false h]
    obtain ⟨t, l, n, r, y⟩ := a
    obtain ⟨t', l', n', r', y'⟩ := b
    by_cases h1 : t = t'
    · by_cases h2 : l = l'
      · by_cases h3 : n = n'
        · by_cases h4 : r = r'
          · by_cases h5 : y = y'
            · exact absurd (by rw [h1, h2, h3, h4, h5]) h
            · simp [go_sem, h1, h2, h3, h4, h5]
          · simp [go_sem, h1, h2, h3, h4]
        · simp [go_sem, h1, h2, h3]
      · simp [go_sem, h1, h2]
    · simp [go_sem, h1]
end Go.Proofs.Ytildjnibdappnaa
