/- Contracts of layer 2's functions (wide). -/
import Derived.Test.YtapgcbjlgekpeaaJRef02c
namespace Go.Proofs.Ytapgcbjlgekpeaa
open Go.ChangeShapes Go.WideShapes Go.ChangeAt Go.RowKit

/-- A number of 128 bits as two words. -/
def two (x : Nat) : Value := .agg #[.int .u64 (x / 18446744073709551616 : Nat), .int .u64 (x % 18446744073709551616 : Nat)]
theorem two_eq {a b : Int} {x : Nat} (h1 : a = (x / 18446744073709551616 : Nat)) (h2 : b = (x % 18446744073709551616 : Nat)) : Value.agg #[.int .u64 a, .int .u64 b] = two x := by
  unfold two; rw [h1, h2]
theorem ret_agg {a b : Value} (h : a = b) : Ending.returned a = .returned b := by rw [h]
theorem two_words (h l : Nat) (hl : l < 18446744073709551616) : (h * 18446744073709551616 + l) / 18446744073709551616 = h ∧ (h * 18446744073709551616 + l) % 18446744073709551616 = l := by omega

theorem and32 (x : Int) (h0 : 0 ≤ x) (h1 : x < 18446744073709551616) : bits .and .u64 x 4294967295 = x % 4294967296 := by
  obtain ⟨n, rfl⟩ : ∃ n : Nat, x = n := ⟨x.toNat, by omega⟩
  have := u64_and_nat n 4294967295 (by omega) (by omega)
  rw [show ((4294967295 : Nat) : Int) = 4294967295 from rfl] at this
  rw [this, show (4294967295 : Nat) = 2 ^ 32 - 1 from rfl, Nat.and_two_pow_sub_one_eq_mod]
  omega

theorem or_low (x y : Int) (k : Nat) (h0 : 0 ≤ x) (h1 : x * 2 ^ k < 18446744073709551616) (h2 : 0 ≤ y) (h3 : y < 2 ^ k) (hk : k ≤ 64) : bits .or .u64 (x * 2 ^ k) y = x * 2 ^ k + y := by
  obtain ⟨n, rfl⟩ : ∃ n : Nat, x = n := ⟨x.toNat, by omega⟩
  obtain ⟨m, rfl⟩ : ∃ n : Nat, y = n := ⟨y.toNat, by omega⟩
  have hc : ((2 ^ k : Nat) : Int) = 2 ^ k := by simp
  have hp : (2 : Nat) ^ k ≤ 2 ^ 64 := Nat.pow_le_pow_right (by omega) hk
  have hx : ((n * 2 ^ k : Nat) : Int) = n * 2 ^ k := by simp
  rw [← hx] at h1 ⊢
  rw [← hc] at h3
  rw [u64_or_nat _ _ (by omega) (by omega), Nat.mul_comm, ← Nat.two_pow_add_eq_or_of_lt (by omega)]
  omega

theorem wide_words (a1 a0 b1 b0 : Nat) (ha1 : a1 < 4294967296) (ha0 : a0 < 4294967296) (hb1 : b1 < 4294967296) (hb0 : b0 < 4294967296) :
    ∃ bottom left right : Nat, bottom = a0 * b0 ∧ left = a1 * b0 + bottom / 4294967296 ∧ right = a0 * b1 + left % 4294967296 ∧
      bottom < 18446744073709551616 ∧ left < 18446744073709551616 ∧ right < 18446744073709551616 ∧ a1 * b1 + left / 4294967296 + right / 4294967296 < 18446744073709551616 ∧
      (a1 * 4294967296 + a0) * (b1 * 4294967296 + b0) = (a1 * b1 + left / 4294967296 + right / 4294967296) * 18446744073709551616 + ((right % 4294967296) * 4294967296 + bottom % 4294967296) := by
  have p : ∀ x y : Nat, x < 4294967296 → y < 4294967296 → x * y ≤ 18446744065119617025 := fun x y hx hy => by
    have : x * y ≤ 4294967295 * 4294967295 := Nat.mul_le_mul (by omega) (by omega)
    omega
  have p1 := p a1 b1 ha1 hb1
  have p2 := p a1 b0 ha1 hb0
  have p3 := p a0 b1 ha0 hb1
  have p4 := p a0 b0 ha0 hb0
  refine ⟨_, _, _, rfl, rfl, rfl, ?_, ?_, ?_, ?_, ?_⟩
  · omega
  · omega
  · omega
  · omega
  · rw [Nat.add_mul, Nat.mul_add, Nat.mul_add]
    rw [show a1 * 4294967296 * (b1 * 4294967296) = (a1 * b1) * 18446744073709551616 by rw [Nat.mul_mul_mul_comm],
      show a1 * 4294967296 * b0 = (a1 * b0) * 4294967296 by rw [Nat.mul_right_comm], show a0 * (b1 * 4294967296) = (a0 * b1) * 4294967296 by rw [Nat.mul_assoc]]
    generalize a1 * b1 = x at *
    generalize a1 * b0 = y at *
    generalize a0 * b1 = z at *
    generalize a0 * b0 = t at *
    omega

theorem ret_row {fn : Func} {p : Tmp} {ty : TypeId} {W : World} {R : Ending → World → Prop} {a : Act} (h : fn.results = #[.cell p ty]) (hd : a.defers = []) (g : Nat) (t : TypeId) (cs : Array Value) (fr : Nat × Nat) (d : Array Field) (n : Nat)
    (hp : a.tmps.getD p undef = .pointer (some ⟨g, 0, none⟩)) (hg : W.heap[g]? = some (.cells cs t fr)) (hu : Try.prog.underlying ty = some (.struct d))
    (hi : (Try.prog.info? ty).map (·.size) = some n) (hn : cs.size = n) (hR : R (.returned (.agg cs)) W) : bodyPost Try.prog fn R .ret a W :=
  bodyPost_ret (results_cell_row h _ _ g t cs fr _ hp hg hu rfl (by rw [hn]; exact hi)) hd hR

theorem u64_wrap_nat (n : Nat) (h : n < 18446744073709551616) (x : Int) (hx : x = n) : IntKind.u64.wrap x = n := by
  rw [hx]; exact IntWalk.u64_in _ (by omega)

theorem ret_row2 {fn : Func} {p u : Tmp} {ty : TypeId} {W : World} {R : Ending → World → Prop} {a : Act} (h : fn.results = #[.cell p ty, .tmp u]) (hd : a.defers = []) (g : Nat) (t : TypeId) (cs : Array Value) (fr : Nat × Nat) (d : Array Field) (n : Nat) (x : Value)
    (hp : a.tmps.getD p undef = .pointer (some ⟨g, 0, none⟩)) (hx : a.tmps.getD u undef = x) (hg : W.heap[g]? = some (.cells cs t fr)) (hu : Try.prog.underlying ty = some (.struct d))
    (hi : (Try.prog.info? ty).map (·.size) = some n) (hn : cs.size = n) (hR : R (.returned (.tuple #[.agg cs, x])) W) : bodyPost Try.prog fn R .ret a W :=
  bodyPost_ret (results_row_tmp h _ _ g t cs fr _ n x hx hp hg hu rfl hi hn) hd hR

def W2 (h l : Nat) : Nat := h * 18446744073709551616 + l

theorem two_W2 (h l : Nat) (hl : l < 18446744073709551616) : two (W2 h l) = .agg #[.int .u64 h, .int .u64 l] := by
  unfold two W2
  rw [(two_words h l hl).1, (two_words h l hl).2]

end Go.Proofs.Ytapgcbjlgekpeaa
