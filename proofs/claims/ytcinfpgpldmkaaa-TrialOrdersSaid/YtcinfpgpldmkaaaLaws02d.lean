/- Layer 2: WideMeans, walked. -/
import Derived.Test.YtcinfpgpldmkaaaLaws02c
namespace Go.Proofs.Ytcinfpgpldmkaaa
open Go.ChangeShapes Go.WideShapes Go.ChangeAt Go.RowKit

theorem Bits.total_ge (l : List Int) (lo : Int) (h0 : 0 ≤ lo) (h : ∀ j, j < l.length → lo ≤ l[j]?.getD 0) : ∀ k, k ≤ l.length → lo * k ≤ Bits.total (l.take k) := by
  intro k
  induction k with
  | zero => intro _; simp
  | succ k ih =>
    intro hk
    have h1 := ih (by omega)
    have h2 := h k (by omega)
    rw [Bits.total_step l k (by omega)]
    have e : lo * ((k + 1 : Nat) : Int) = lo * k + lo := by rw [Int.natCast_add, Int.mul_add]; simp
    omega
theorem Bits.total_hi (l : List Int) (hi : Int) (h0 : 0 ≤ hi) (h : ∀ j, j < l.length → l[j]?.getD 0 ≤ hi) : ∀ k, k ≤ l.length → (Bits.total (l.take k) : Int) ≤ hi * k := by
  intro k
  induction k with
  | zero => intro _; simp [Bits.total]
  | succ k ih =>
    intro hk
    have h1 := ih (by omega)
    have h2 := h k (by omega)
    rw [Bits.total_step l k (by omega)]
    have e : hi * ((k + 1 : Nat) : Int) = hi * k + hi := by rw [Int.natCast_add, Int.mul_add]; simp
    omega

/-- A mean, rounded up. -/
theorem Wide.mean_is (l : List Int) (hl : ∀ n ∈ l, I64 n) (hp : 0 < l.length) : ∃ q : Nat, Wide.up (Bits.total l) l.length = q ∧ q ≤ 9223372036854775807 ∧ Bits.up (Bits.total l) l.length q = true ∧
    (∀ lo hi : Int, 0 ≤ lo → (∀ j, j < l.length → lo ≤ l[j]?.getD 0 ∧ l[j]?.getD 0 ≤ hi) → lo ≤ q ∧ (q : Int) ≤ hi) := by
  obtain ⟨V, hV⟩ : ∃ V, V = Bits.total l / l.length + (if Bits.total l % l.length = 0 then 0 else 1) := ⟨_, rfl⟩
  obtain ⟨h1, h2⟩ := Bits.ceil (Bits.total l) l.length hp V hV
  have hle : ∀ m : Nat, Bits.total l ≤ m * l.length → V ≤ m := fun m hm => by
    rcases h2 with h2 | h2
    · omega
    · have : (V - 1) * l.length < m * l.length := Nat.lt_of_lt_of_le h2 hm
      have := Nat.lt_of_mul_lt_mul_right this
      omega
  have ht := Bits.total_le l hl l.length (Nat.le_refl _)
  rw [List.take_length, Nat.mul_comm] at ht
  have hm := hle 9223372036854775807 ht
  refine ⟨V, ?_, hm, decide_eq_true ⟨h1, h2⟩, fun lo hi h0 hj => ?_⟩
  · unfold Wide.up
    rw [if_neg (by omega), ← hV]
    unfold Bits.small
    rw [if_pos (by omega)]
  · have a := Bits.total_ge l lo h0 (fun j h => (hj j h).1) l.length (Nat.le_refl _)
    have h00 := hj 0 hp
    have b := Bits.total_hi l hi (by omega) (fun j h => (hj j h).2) l.length (Nat.le_refl _)
    rw [List.take_length] at a b
    obtain ⟨L, rfl⟩ : ∃ L : Nat, lo = L := ⟨lo.toNat, by omega⟩
    obtain ⟨H, rfl⟩ : ∃ H : Nat, hi = H := ⟨hi.toNat, by omega⟩
    have a' : L * l.length ≤ Bits.total l := by exact_mod_cast a
    have b' : Bits.total l ≤ H * l.length := by exact_mod_cast b
    have c := hle H b'
    have d : L * l.length ≤ V * l.length := Nat.le_trans a' h1
    have := Nat.le_of_mul_le_mul_right d hp
    omega

end Go.Proofs.Ytcinfpgpldmkaaa
