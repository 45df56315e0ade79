/- Layer 4: the laws, walked. -/
import Derived.Test.YtapgcbjlgekpeaaJFnv
import Derived.Test.YtapgcbjlgekpeaaJBase
namespace Go.Proofs.Ytapgcbjlgekpeaa
open Go.ChangeShapes Go.WideShapes Go.ChangeAt Go.RowKit

theorem keyInfo : (Try.prog.info? 159).map (·.size) = some 2 := by kernel_rfl

theorem Fnv.step_inj (h c d : Nat) (hh : h < 18446744073709551616) (hc : c < 256) (hd : d < 256) (he : Fnv.step h c = Fnv.step h d) : c = d := by
  have inv : ∀ x, x < 18446744073709551616 → x * 1099511628211 % 18446744073709551616 * 14886173955864302971 % 18446744073709551616 = x := fun x hx => by
    rw [Nat.mul_mod, Nat.mod_mod, ← Nat.mul_mod]
    omega
  unfold Fnv.step at he
  have h1 := inv (h ^^^ c) (Nat.xor_lt_two_pow (n := 64) hh (by omega))
  have h2 := inv (h ^^^ d) (Nat.xor_lt_two_pow (n := 64) hh (by omega))
  rw [he, h2] at h1
  have h3 : h ^^^ (h ^^^ d) = h ^^^ (h ^^^ c) := by rw [h1]
  simpa [← Nat.xor_assoc] using h3.symm
theorem foldl_snoc {α β : Type} (f : β → α → β) (b : β) (l : List α) (c : α) : (l ++ [c]).foldl f b = f (l.foldl f b) c := by simp
theorem Fnv.sum_snoc (l : List Nat) (c : Nat) : Fnv.sum (l ++ [c]) = Fnv.step (Fnv.sum l) c := foldl_snoc _ _ l c

end Go.Proofs.Ytapgcbjlgekpeaa
