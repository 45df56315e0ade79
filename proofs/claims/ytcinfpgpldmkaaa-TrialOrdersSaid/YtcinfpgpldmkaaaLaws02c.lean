/- Layer 2: WideScales, walked. -/
import Derived.Test.YtcinfpgpldmkaaaLaws02b
namespace Go.Proofs.Ytcinfpgpldmkaaa
open Go.ChangeShapes Go.WideShapes Go.ChangeAt Go.RowKit

theorem Bits.ceil (n c : Nat) (hc : 0 < c) (V : Nat) (hV : V = n / c + (if n % c = 0 then 0 else 1)) : n ≤ V * c ∧ (V = 0 ∨ (V - 1) * c < n) := by
  have h := Nat.div_add_mod' n c
  have hm := Nat.mod_lt n hc
  by_cases h0 : n % c = 0
  · rw [if_pos h0] at hV
    subst hV
    refine ⟨by rw [Nat.add_zero]; omega, ?_⟩
    by_cases hz : n / c = 0
    · exact .inl (by rw [hz])
    · right
      rw [Nat.add_zero, Nat.sub_mul, Nat.one_mul]
      have : c ≤ n / c * c := Nat.le_mul_of_pos_left c (Nat.pos_of_ne_zero hz)
      omega
  · rw [if_neg h0] at hV
    subst hV
    refine ⟨by rw [Nat.add_mul, Nat.one_mul]; omega, .inr (by rw [Nat.add_sub_cancel]; omega)⟩

theorem Wide.up_is (n c : Nat) (hc : 0 < c) : ∃ q : Nat, Wide.up n c = q ∧ q ≤ 9223372036854775807 ∧ (q = 9223372036854775807 → (q - 1) * c < n) ∧ (q ≠ 9223372036854775807 → Bits.up n c q = true) := by
  obtain ⟨V, hV⟩ : ∃ V, V = n / c + (if n % c = 0 then 0 else 1) := ⟨_, rfl⟩
  obtain ⟨h1, h2⟩ := Bits.ceil n c hc V hV
  have he : Wide.up n c = Bits.small V := by unfold Wide.up; rw [if_neg (by omega), ← hV]
  by_cases hs : V < 9223372036854775808
  · refine ⟨V, by rw [he]; unfold Bits.small; rw [if_pos hs], by omega, fun h => ?_, fun _ => ?_⟩
    · rcases h2 with h2 | h2
      · omega
      · exact h2
    · unfold Bits.up
      exact decide_eq_true ⟨h1, h2⟩
  · refine ⟨9223372036854775807, by rw [he]; unfold Bits.small; rw [if_neg hs]; rfl, by omega, fun _ => ?_, fun h => absurd rfl h⟩
    have h3 : (9223372036854775807 - 1) * c ≤ (V - 1) * c := Nat.mul_le_mul_right _ (by omega)
    rcases h2 with h2 | h2 <;> omega

end Go.Proofs.Ytcinfpgpldmkaaa
