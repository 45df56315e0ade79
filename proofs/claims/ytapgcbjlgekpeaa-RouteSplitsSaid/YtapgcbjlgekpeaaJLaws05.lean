/- Layer 5: the laws, walked. -/
import Derived.Test.YtapgcbjlgekpeaaJRoute
namespace Go.Proofs.Ytapgcbjlgekpeaa
open Go.ChangeShapes Go.WideShapes Go.ChangeAt Go.RowKit

set_option maxRecDepth 100000 in
theorem awake05 (w : World) : Calls Try.prog 25 #[] w fun e w' => e = .returned (.bool true) ∧ Below w.heap.size w w' := by
  have h1 := route_bits 8 (by unfold I64; omega)
  rw [show (if 0 ≤ Route.bits 8 then Route.bits 8 else 0) = 3 by decide] at h1
  have h2 := route_right 6 (by unfold I64; omega)
  rw [show decide (0 ≤ Route.bits 6) = false by decide] at h2
  have h3 : ∀ w, Calls Try.prog 93 #[.agg #[.int .u64 9, .int .u64 0], .int .i64 1] w fun e w' => e = .returned (.int .i64 (Route.of 9 0 1)) ∧ Below w.heap.size w w' := route_of 9 0 (by omega) (by omega) 1 (by unfold I64; omega)
  rw [show Route.of 9 0 1 = 0 by unfold Route.of; rw [if_pos (by decide)]; unfold Fnv.folded; rw [if_neg (by decide)]; rfl] at h3
  have H1 := Lib.hid h1
  have H2 := Lib.hid h2
  have H3 := Lib.hid h3
  clear h1 h2 h3
  go_enter Try.func25, Try.ntmps25
  go_wp2_with (first | (with_reducible refine (H1.out _).mono ?_; rintro e w1 ⟨rfl, rfl⟩) | (with_reducible refine (H2.out _).mono ?_; rintro e w1 ⟨rfl, rfl⟩) | (with_reducible refine (H3.out _).mono ?_; rintro e w1 ⟨rfl, hb1⟩))
  go_ret
  exact ⟨rfl, hb1⟩

end Go.Proofs.Ytapgcbjlgekpeaa
