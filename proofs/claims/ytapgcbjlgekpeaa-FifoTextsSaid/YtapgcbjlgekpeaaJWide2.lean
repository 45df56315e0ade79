/- Contracts of layer 2's functions (wide): the long division. -/
import Derived.Test.YtapgcbjlgekpeaaJWide
namespace Go.Proofs.Ytapgcbjlgekpeaa
open Go.ChangeShapes Go.WideShapes Go.ChangeAt Go.RowKit

theorem results_row_tmp2 {P : Program} {fn : Func} {p u v : Tmp} {ty : TypeId} (h : fn.results = #[.cell p ty, .tmp u, .tmp v]) (tmps : Array Value) (w : World) (g : Nat) (t : TypeId) (cs : Array Value) (fr : Nat × Nat) (d : TypeDesc) (n : Nat) (x y : Value)
    (hx : tmps.getD u undef = x) (hy : tmps.getD v undef = y) (hp : tmps.getD p undef = .pointer (some ⟨g, 0, none⟩)) (hg : w.heap[g]? = some (.cells cs t fr))
    (hu : P.underlying ty = some d) (hd : (match d with | .struct _ | .array _ _ => true | _ => false) = true) (hi : (P.info? ty).map (·.size) = some n) (hn : cs.size = n) :
    (results fn tmps).run P w = .ok (.tuple #[.agg cs, x, y]) w := by
  subst hx
  subst hy
  have hp' : tmps[p]?.getD undef = .pointer (some ⟨g, 0, none⟩) := by simpa using hp
  simp [results, h, hp', asAddr, run_loadVar_row w g t ty cs fr d hg hu hd (by rw [hn]; exact hi)]

theorem ret_row3 {fn : Func} {p u v : Tmp} {ty : TypeId} {W : World} {R : Ending → World → Prop} {a : Act} (h : fn.results = #[.cell p ty, .tmp u, .tmp v]) (hd : a.defers = []) (g : Nat) (t : TypeId) (cs : Array Value) (fr : Nat × Nat) (d : Array Field) (n : Nat) (x y : Value)
    (hp : a.tmps.getD p undef = .pointer (some ⟨g, 0, none⟩)) (hx : a.tmps.getD u undef = x) (hy : a.tmps.getD v undef = y) (hg : W.heap[g]? = some (.cells cs t fr)) (hu : Try.prog.underlying ty = some (.struct d))
    (hi : (Try.prog.info? ty).map (·.size) = some n) (hn : cs.size = n) (hR : R (.returned (.tuple #[.agg cs, x, y])) W) : bodyPost Try.prog fn R .ret a W :=
  bodyPost_ret (results_row_tmp2 h _ _ g t cs fr _ n x y hx hy hp hg hu rfl hi hn) hd hR

/-- A number's two words in memory. -/
def cells2 (x : Nat) : Array Value := #[.int .u64 (x / 18446744073709551616 : Nat), .int .u64 (x % 18446744073709551616 : Nat)]
theorem two_cells (x : Nat) : two x = .agg (cells2 x) := rfl
theorem cells2_one (x : Nat) : (cells2 x).all (·.oneCell') = true := by simp [cells2, Value.oneCell']
/-- One round of the long division. -/
theorem div_round (X d k : Nat) (hd : 0 < d) (_ : d < 18446744073709551616) (hX : X < 2 ^ 128) (hk : k < 128) :
    ∃ r q xc bit r' q' : Nat, r = X / 2 ^ (128 - k) % d ∧ q = X / 2 ^ (128 - k) / d ∧ xc = X * 2 ^ k % 2 ^ 128 ∧ bit = xc / 2 ^ 127 ∧ bit ≤ 1 ∧ r < d ∧ 2 * q + 1 < 2 ^ 128 ∧ xc < 2 ^ 128 ∧
      r' = X / 2 ^ (128 - (k + 1)) % d ∧ q' = X / 2 ^ (128 - (k + 1)) / d ∧ X * 2 ^ (k + 1) % 2 ^ 128 = 2 * xc % 2 ^ 128 ∧
      (if d ≤ 2 * r + bit then r' + d = 2 * r + bit ∧ q' = 2 * q + 1 else r' = 2 * r + bit ∧ q' = 2 * q) := by
  refine ⟨_, _, _, _, _, _, rfl, rfl, rfl, rfl, ?_, ?_, ?_, ?_, rfl, rfl, ?_, ?_⟩
  · have : X * 2 ^ k % 2 ^ 128 < 2 ^ 128 := Nat.mod_lt _ (by omega)
    omega
  · exact Nat.mod_lt _ hd
  · have h1 : X / 2 ^ (128 - k) < 2 ^ k := by
      rw [Nat.div_lt_iff_lt_mul (Nat.two_pow_pos _), ← Nat.pow_add, show k + (128 - k) = 128 by omega]; exact hX
    have h2 : X / 2 ^ (128 - k) / d ≤ X / 2 ^ (128 - k) := Nat.div_le_self _ _
    have h3 : 2 ^ k ≤ 2 ^ 127 := Nat.pow_le_pow_right (by omega) (by omega)
    omega
  · exact Nat.mod_lt _ (by omega)
  · rw [Nat.pow_succ, ← Nat.mul_assoc, Nat.mul_comm (X * 2 ^ k) 2, Nat.mul_mod, Nat.mul_mod 2 (X * 2 ^ k % 2 ^ 128), Nat.mod_mod]
  · have hbit : X * 2 ^ k % 2 ^ 128 / 2 ^ 127 = X / 2 ^ (127 - k) % 2 := by
      rw [show (2 : Nat) ^ 128 = 2 ^ 127 * 2 by rfl, Nat.mod_mul_right_div_self]
      congr 1
      rw [show (2 : Nat) ^ 127 = 2 ^ (127 - k) * 2 ^ k by rw [← Nat.pow_add, show 127 - k + k = 127 by omega], Nat.mul_div_mul_right _ _ (Nat.two_pow_pos _)]
    rw [hbit]
    have hst : X / 2 ^ (127 - k) = 2 * (X / 2 ^ (128 - k)) + X / 2 ^ (127 - k) % 2 := by
      rw [show 128 - k = (127 - k) + 1 by omega, Nat.pow_succ, ← Nat.div_div_eq_div_mul]
      omega
    rw [show 128 - (k + 1) = 127 - k by omega]
    have hb : X / 2 ^ (127 - k) % 2 ≤ 1 := by omega
    generalize X / 2 ^ (127 - k) = Y at *
    generalize X / 2 ^ (128 - k) = Z at *
    generalize Y % 2 = b at *
    subst hst
    have e := Nat.div_add_mod Z d
    have l := Nat.mod_lt Z hd
    generalize Z % d = r at *
    generalize Z / d = q at *
    subst e
    split
    · have e2 : 2 * (d * q + r) + b = (2 * r + b - d) + d * (2 * q + 1) := by
        rw [Nat.mul_add, Nat.mul_add, Nat.mul_one, ← Nat.mul_assoc, Nat.mul_comm d (2 * q), Nat.mul_assoc 2 q d, Nat.mul_comm q d, Nat.mul_assoc 2 d q]
        omega
      rw [e2, Nat.add_mul_mod_self_left, Nat.add_mul_div_left _ _ hd, Nat.mod_eq_of_lt (by omega), Nat.div_eq_of_lt (by omega)]
      omega
    · have e2 : 2 * (d * q + r) + b = (2 * r + b) + d * (2 * q) := by
        rw [Nat.mul_add, ← Nat.mul_assoc, Nat.mul_comm d (2 * q), Nat.mul_assoc 2 q d, Nat.mul_comm q d, Nat.mul_assoc 2 d q]
        omega
      rw [e2, Nat.add_mul_mod_self_left, Nat.add_mul_div_left _ _ hd, Nat.mod_eq_of_lt (by omega), Nat.div_eq_of_lt (by omega)]
      omega

def Wide.rest (x d : Nat) : Nat := if d = 0 then 0 else x % d

end Go.Proofs.Ytapgcbjlgekpeaa
