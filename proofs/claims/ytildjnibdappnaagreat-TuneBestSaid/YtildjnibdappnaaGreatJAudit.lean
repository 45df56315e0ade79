/- Layer 48: which rule a decision breaks. -/
import Derived.Test.YtildjnibdappnaaGreatJLaws16
namespace Go.Proofs.YtildjnibdappnaaGreat
open Go.ChangeShapes Go.WideShapes Go.ChangeAt Go.RowKit

def Aud.has (p : Pol) (n : Int) : Bool := p.ok && decide (p.mn ≤ n) && decide (n ≤ p.mx)
def Aud.moved (why repl now : Int) : Bool := if why = 2 then decide (now < repl) else if why = 3 then decide (repl < now) else if why = 1 then repl == now else true
def Aud.rule' (why : Int) (has : Bool) (want raw repl bd : Int) (hh : Bool) (mv : Bool) : Int :=
  if why < 1 ∨ 6 < why then 1 else if has = false then 2 else if want ≠ raw then 3 else if repl ≠ bd ∨ hh ≠ (why == 4) then 4 else if mv = false then 5 else 0
def Aud.rule (p : Pol) (past : List Adv) (a : Adv) : Int :=
  Aud.rule' a.why (Aud.has p a.repl) a.want (p.raw a.load (Dec.now p past)) a.repl (p.bound (Adv.held p a.tick a.want past).1) (Adv.held p a.tick a.want past).2 (Aud.moved a.why a.repl (Dec.now p past))

end Go.Proofs.YtildjnibdappnaaGreat
