/- Layer 27: a run, walked. -/
import Derived.Test.YtapgcbjlgekpeaaJSched4
namespace Go.Proofs.Ytapgcbjlgekpeaa
open Go.ChangeShapes Go.WideShapes Go.ChangeAt Go.RowKit

theorem Sl.turnedG {S : Nat → Prop} {w w' : World} {p : Option Addr} {n sz : Nat} {f : Nat → Value} (h : Sl w p n sz f) (ht : Turned S w w') (hp : ∀ ad, p = some ad → ¬ S ad.block) : Sl w' p n sz f := by
  rcases h with h0 | ⟨b', off, e, hb, hc⟩
  · exact .inl h0
  · have h1 := ht.block b' hb (hp _ e)
    refine .inr ⟨b', off, e, Nat.lt_of_lt_of_le hb ht.size, fun j hj => ?_⟩
    rw [← hc j hj]
    exact World.cell?_of_block h1
theorem turned_row27 (w : World) (b : Nat) (cs : Array Value) : Turned (fun k => k = b) w (w.setRow b cs) := ⟨rfl, rfl, rfl, by simp, fun k hk hn => setRow_other w b k cs hn⟩
theorem intInfo27 : (Try.prog.info? 3).map (fun i => (i.zero, i.size, i.bytes)) = some (some (.int .i64 0), 1, 8) := by kernel_rfl
section
variable {w : World} {q : Option Addr} {n : Nat} {bs : Nat → Option Nat} {T : Nat → Toy} {c : Nat}
end
end Go.Proofs.Ytapgcbjlgekpeaa
