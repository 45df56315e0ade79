/- Why decisions are what they are, counted (layer 14). -/
import Derived.Test.YtildjnibdappnaaAdv4
namespace Go.Proofs.Ytildjnibdappnaa
open Go.ChangeShapes Go.WideShapes Go.ChangeAt Go.RowKit

def Adv.slot (a : Adv) : Nat := if 1 ≤ a.why ∧ a.why ≤ 6 then a.why.toNat else 0
def Adv.tally (l : List Adv) (i : Nat) : Int := ((l.countP fun a => decide (a.slot = i)) : Nat)
theorem Adv.tally_next (l : List Adv) (k : Nat) (h : k < l.length) (i : Nat) : Adv.tally (l.take (k + 1)) i = Adv.tally (l.take k) i + if (l[k]?.getD default).slot = i then 1 else 0 := by
  unfold Adv.tally
  rw [List.take_succ_eq_append_getElem h, List.countP_append, List.getElem?_eq_getElem h]
  simp only [Option.getD_some, List.countP_cons, List.countP_nil]
  split <;> split <;> simp_all
theorem Adv.tally_bd (l : List Adv) (i : Nat) : 0 ≤ Adv.tally l i ∧ Adv.tally l i ≤ l.length := by
  have := List.countP_le_length (p := fun a : Adv => decide (a.slot = i)) (l := l)
  unfold Adv.tally
  omega
def Adv.row7 (f : Nat → Int) : Array Value := #[.int .i64 (f 0), .int .i64 (f 1), .int .i64 (f 2), .int .i64 (f 3), .int .i64 (f 4), .int .i64 (f 5), .int .i64 (f 6)]
theorem Adv.row7_bump (t t' : Nat → Int) (j : Nat) (hj : j < 7) (h : ∀ i, t' i = t i + if j = i then 1 else 0) : Adv.row7 t' = (Adv.row7 t).setIfInBounds j (.int .i64 (t j + 1)) := by
  match j, hj with
  | 0, _ => simp [Adv.row7, h]
  | 1, _ => simp [Adv.row7, h]
  | 2, _ => simp [Adv.row7, h]
  | 3, _ => simp [Adv.row7, h]
  | 4, _ => simp [Adv.row7, h]
  | 5, _ => simp [Adv.row7, h]
  | 6, _ => simp [Adv.row7, h]
theorem Adv.row7_zero (l : List Adv) : Adv.row7 (Adv.tally (l.take 0)) = #[.int .i64 0, .int .i64 0, .int .i64 0, .int .i64 0, .int .i64 0, .int .i64 0, .int .i64 0] := by simp [Adv.row7, Adv.tally]
end Go.Proofs.Ytildjnibdappnaa
