/- Layer 44: a result's parts, as data. -/
import Derived.Test.YtildjnibdappnaaGreatJRingB
import Derived.Test.YtildjnibdappnaaGreatJAudit
namespace Go.Proofs.YtildjnibdappnaaGreat
open Go.ChangeShapes Go.WideShapes Go.ChangeAt Go.RowKit

namespace Tri
/-- What is left with a decision. -/
def left (t : Int) (l : List Adv) (k : Nat) : Int := Sat.clamp (Sat.clamp ((l[k]?.getD default).repl * t) - (l[k]?.getD default).load)
def lo (g : Nat → Int) : Nat → Int
  | 0 => 0
  | k + 1 => if k = 0 then g 0 else min (lo g k) (g k)
def hi (g : Nat → Int) : Nat → Int
  | 0 => 0
  | k + 1 => if k = 0 then g 0 else max (hi g k) (g k)
def sp (f : Nat → Int) : Nat → Int
  | 0 => 0
  | k + 1 => if 0 ≤ f k then Sat.clamp (sp f k + f k) else sp f k
def sh (f : Nat → Int) : Nat → Int
  | 0 => 0
  | k + 1 => if 0 ≤ f k then sh f k else Sat.clamp (sh f k + Sat.clamp (0 - f k))
theorem left_I64 (t : Int) (l : List Adv) (k : Nat) : I64 (left t l k) := Sat.clamp_I64 _
theorem sp_I64 (f : Nat → Int) : ∀ k, I64 (sp f k)
  | 0 => by unfold sp I64; omega
  | k + 1 => by
    unfold sp
    split
    · exact Sat.clamp_I64 _
    · exact sp_I64 f k
theorem sh_I64 (f : Nat → Int) : ∀ k, I64 (sh f k)
  | 0 => by unfold sh I64; omega
  | k + 1 => by
    unfold sh
    split
    · exact sh_I64 f k
    · exact Sat.clamp_I64 _
/-- A result's cells. -/
def row (v : Value) (c t a b x y : Int) : Array Value := #[v, .int .i64 c, .int .i64 t, .int .i64 a, .int .i64 b, .int .i64 x, .int .i64 y]
end Tri

theorem Mem.drew {w w' : World} {bs : List (Nat × Obj)} (h : Mem w w' bs) : Mem w w'.drew bs := h.drewN 1
theorem AdvsIn.drew {A B : Nat} {w : World} {q : Option Addr} {l : List Adv} (h : AdvsIn A B w q l) : AdvsIn A B w.drew q l := h.below (below_drew (Below.refl _ _))
theorem stab_advsIn {A B : Nat} {q : Option Addr} {l : List Adv} : Stab (fun w' => AdvsIn A B w' q l) := fun _ _ h hb => h.below hb
end Go.Proofs.YtildjnibdappnaaGreat
