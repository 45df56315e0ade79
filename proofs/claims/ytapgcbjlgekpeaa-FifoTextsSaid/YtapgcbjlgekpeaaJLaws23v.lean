/- Layer 23: FifoTexts. -/
import Derived.Test.YtapgcbjlgekpeaaJLaws23u
namespace Go.Proofs.Ytapgcbjlgekpeaa
open Go.ChangeShapes Go.WideShapes Go.ChangeAt Go.RowKit
theorem fifoTexts_walk (p : Option Addr) (c : Nat) (l : List ByteArray) (hl : l.length ≤ 9223372036854775807) (most : Int) (w : World) (hs : Strs w p l) : Calls Try.prog 10 #[.slice p l.length c, .int .i64 most] w fun e w' => e = .returned (.bool true) ∧ Below w.heap.size w w' := by
  by_cases h : 60 < l.length
  · exact fifoTexts_long p l.length c most h hl w
  · exact fifoTexts_short p l.length c l rfl most (by omega) w hs
end Go.Proofs.Ytapgcbjlgekpeaa
