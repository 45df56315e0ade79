/- What stays when others' blocks are turned. -/
import Derived.Test.YtildjnibdappnaaEach
import Derived.Test.YtildjnibdappnaaMem2
import Derived.Test.YtildjnibdappnaaAdv
namespace Go.Proofs.Ytildjnibdappnaa
open Go.ChangeShapes Go.WideShapes Go.ChangeAt Go.RowKit
theorem stab_mem {w : World} {bs : List (Nat × Obj)} : Stab (fun w' => Mem w w' bs) := fun _ _ h hb => h.call hb
theorem stab_advs {q : Option Addr} {l : List Adv} : Stab (fun w' => Advs w' q l) := fun _ _ h hb => h.below hb
end Go.Proofs.Ytildjnibdappnaa
