/- A series: into which all samples were put; the reference's. -/
import Derived.Test.YtapgcbjlgekpeaaJSer
namespace Go.Proofs.Ytapgcbjlgekpeaa
open Go.ChangeShapes Go.WideShapes Go.ChangeAt Go.RowKit

theorem Samps.cc {w0 : World} {b off : Nat} {l : List Samp} (h : Samps w0 (some ⟨b, off, none⟩) l) (k : Nat) (hk : k < l.length) (W : World) (hb : Below w0.heap.size w0 W) :
    W.cell? ⟨b, off + k * 2, none⟩ = some (.int .i64 (l[k]?.getD default).tick) ∧ W.cell? ⟨b, off + k * 2 + 1, none⟩ = some (.int .i64 (l[k]?.getD default).val) := (h.below hb).at k hk

theorem stab_geS {n : Nat} : Stab (fun w' : World => n ≤ w'.heap.size) := fun _ _ h hb => Nat.le_trans h hb.size
theorem stab_sampsS {q : Option Addr} {l : List Samp} : Stab (fun w' => Samps w' q l) := fun _ _ h hb => h.below hb

end Go.Proofs.Ytapgcbjlgekpeaa
