/- Layer 27: tasks as data; whose turn it is. -/
import Derived.Test.YtldhbgefpfmkmaaJSched
namespace Go.Proofs.Ytldhbgefpfmkmaa
open Go.ChangeShapes Go.WideShapes Go.ChangeAt Go.RowKit

def Tk.first (pick : Int) (n : Nat) : Int := if n = 0 then -1 else pick % n
/-- The first of the first k places, from one on, that may go on. -/
def Tk.found (n : Nat) (T : Nat → Toy) (used : Int) (at0 : Nat) : Nat → Option Nat
  | 0 => none
  | k + 1 => match Tk.found n T used at0 k with
    | some x => some x
    | none => if Toy.ready (T ((at0 + k) % n)) used = true then some ((at0 + k) % n) else none
def Tk.next (n : Nat) (T : Nat → Toy) (used pick : Int) : Int := match Tk.found n T used (Tk.first pick n).toNat n with | some x => (x : Int) | none => -1
theorem Tk.first_in (pick : Int) {n : Nat} (h : 0 < n) : 0 ≤ Tk.first pick n ∧ Tk.first pick n < n := by
  unfold Tk.first
  rw [if_neg (by omega)]
  exact ⟨Int.emod_nonneg _ (by omega), Int.emod_lt_of_pos _ (by omega)⟩
theorem Tk.found_up {n : Nat} {T : Nat → Toy} {used : Int} {a k x : Nat} (h : Tk.found n T used a k = some x) : ∀ d, Tk.found n T used a (k + d) = some x
  | 0 => h
  | d + 1 => by
    have ih := Tk.found_up h d
    show (match Tk.found n T used a (k + d) with | some x => some x | none => _) = _
    rw [ih]
theorem Tk.found_next {n : Nat} {T : Nat → Toy} {used : Int} {a k : Nat} (h : Tk.found n T used a k = none) : Tk.found n T used a (k + 1) = if Toy.ready (T ((a + k) % n)) used = true then some ((a + k) % n) else none := by
  show (match Tk.found n T used a k with | some x => some x | none => _) = _
  rw [h]
theorem Tk.next_in {n : Nat} {T : Nat → Toy} {used pick : Int} (h : ¬ Tk.next n T used pick < 0) : ∃ x : Nat, Tk.next n T used pick = x ∧ x < n ∧ Toy.ready (T x) used = true := by
  have key : ∀ a k x, Tk.found n T used a k = some x → Toy.ready (T x) used = true ∧ (0 < n → x < n) := by
    intro a k
    induction k with
    | zero => intro x hx; exact absurd hx (by simp [Tk.found])
    | succ k ih =>
      intro x hx
      cases hf : Tk.found n T used a k with
      | some y =>
        have : Tk.found n T used a (k + 1) = some y := Tk.found_up hf 1
        rw [this] at hx
        cases hx
        exact ih _ hf
      | none =>
        rw [Tk.found_next hf] at hx
        split at hx
        · rename_i hr
          cases hx
          exact ⟨hr, fun h => Nat.mod_lt _ h⟩
        · cases hx
  unfold Tk.next at h ⊢
  cases hf : Tk.found n T used (Tk.first pick n).toNat n with
  | some x =>
    refine ⟨x, rfl, ?_, (key _ _ _ hf).1⟩
    have hn : 0 < n := by
      rcases Nat.eq_zero_or_pos n with rfl | h0
      · exact absurd hf (by simp [Tk.found])
      · exact h0
    exact (key _ _ _ hf).2 hn
  | none => rw [hf] at h; simp at h

theorem sched_first (pick : Int) (hp : I64 pick) (n : Nat) (hn : n ≤ 9223372036854775807) (w : World) :
    Calls Try.prog 45 #[.int .i64 pick, .int .i64 n] w fun e w' => e = .returned (.int .i64 (Tk.first pick n)) ∧ w = w' := by
  obtain ⟨hp1, hp2⟩ := hp
  by_cases h0 : n = 0
  · subst h0
    go_enter Try.func45, Try.ntmps45
    go_wp2
    go_ret
    exact ⟨rfl, rfl⟩
  · have HE : Hid (Tk.first pick n = pick % n) := if_neg h0
    have l0 := Int.emod_nonneg pick (b := (n : Int)) (by omega)
    have l1 := Int.emod_lt_of_pos pick (b := (n : Int)) (by omega)
    have d1 : decide ((n : Int) < 1) = false := decide_eq_false (by omega)
    by_cases hs : 0 ≤ pick
    · have hns : ¬ pick % (n : Int) < 0 := by omega
      go_enter Try.func45, Try.ntmps45
      go_wp2
      go_ret
      exact ⟨ret_int HE.out.symm, rfl⟩
    · have hm1 : pick.tmod (n : Int) = -(-pick % (n : Int)) := Sat.tmod_neg_of pick n (by omega) (by omega)
      have l2 := Int.emod_nonneg (-pick) (b := (n : Int)) (by omega)
      have l3 := Int.emod_lt_of_pos (-pick) (b := (n : Int)) (by omega)
      have hE2 : pick % (n : Int) = if -pick % (n : Int) = 0 then 0 else n - -pick % (n : Int) := by
        have e := Int.mul_ediv_add_emod (-pick) n
        split
        · rename_i hz
          have : pick = n * (-(-pick / n)) := by rw [Int.mul_neg]; omega
          rw [this, Int.mul_emod_right]
        · have : pick = (n - -pick % (n : Int)) + n * (-(-pick / n) - 1) := by rw [Int.mul_sub, Int.mul_neg, Int.mul_one]; omega
          rw [this, Int.add_mul_emod_self_left, ← this]
          exact Int.emod_eq_of_lt (by omega) (by omega)
      by_cases hz : -pick % (n : Int) = 0
      · rw [if_pos hz] at hE2
        have HE2 := Lib.hid (HE.out.trans hE2)
        clear hE2 HE l0 l1
        go_enter Try.func45, Try.ntmps45
        go_wp2
        go_ret
        exact ⟨ret_int HE2.out.symm, rfl⟩
      · rw [if_neg hz] at hE2
        have HE2 := Lib.hid (HE.out.trans hE2)
        have hlt : -(-pick % (n : Int)) < 0 := by omega
        clear hE2 HE l0 l1
        go_enter Try.func45, Try.ntmps45
        go_wp2
        go_ret
        exact ⟨ret_int (by rw [HE2.out]; omega), rfl⟩
theorem ref27_first (pick : Int) (hp : I64 pick) (n : Nat) (hn : n ≤ 9223372036854775807) (w : World) :
    Calls Try.prog 46 #[.int .i64 pick, .int .i64 n] w fun e w' => e = .returned (.int .i64 (Tk.first pick n)) ∧ w = w' := by
  obtain ⟨hp1, hp2⟩ := hp
  by_cases h0 : n = 0
  · subst h0
    go_enter Try.func46, Try.ntmps46
    go_wp2
    go_ret
    exact ⟨rfl, rfl⟩
  · have HE : Hid (Tk.first pick n = pick % n) := if_neg h0
    have l0 := Int.emod_nonneg pick (b := (n : Int)) (by omega)
    have l1 := Int.emod_lt_of_pos pick (b := (n : Int)) (by omega)
    have d1 : decide ((n : Int) < 1) = false := decide_eq_false (by omega)
    by_cases hs : 0 ≤ pick
    · have hns : ¬ pick % (n : Int) < 0 := by omega
      go_enter Try.func46, Try.ntmps46
      go_wp2
      go_ret
      exact ⟨ret_int HE.out.symm, rfl⟩
    · have hm1 : pick.tmod (n : Int) = -(-pick % (n : Int)) := Sat.tmod_neg_of pick n (by omega) (by omega)
      have l2 := Int.emod_nonneg (-pick) (b := (n : Int)) (by omega)
      have l3 := Int.emod_lt_of_pos (-pick) (b := (n : Int)) (by omega)
      have hE2 : pick % (n : Int) = if -pick % (n : Int) = 0 then 0 else n - -pick % (n : Int) := by
        have e := Int.mul_ediv_add_emod (-pick) n
        split
        · rename_i hz
          have : pick = n * (-(-pick / n)) := by rw [Int.mul_neg]; omega
          rw [this, Int.mul_emod_right]
        · have : pick = (n - -pick % (n : Int)) + n * (-(-pick / n) - 1) := by rw [Int.mul_sub, Int.mul_neg, Int.mul_one]; omega
          rw [this, Int.add_mul_emod_self_left, ← this]
          exact Int.emod_eq_of_lt (by omega) (by omega)
      by_cases hz : -pick % (n : Int) = 0
      · rw [if_pos hz] at hE2
        have HE2 := Lib.hid (HE.out.trans hE2)
        clear hE2 HE l0 l1
        go_enter Try.func46, Try.ntmps46
        go_wp2
        go_ret
        exact ⟨ret_int HE2.out.symm, rfl⟩
      · rw [if_neg hz] at hE2
        have HE2 := Lib.hid (HE.out.trans hE2)
        have hlt : -(-pick % (n : Int)) < 0 := by omega
        clear hE2 HE l0 l1
        go_enter Try.func46, Try.ntmps46
        go_wp2
        go_ret
        exact ⟨ret_int (by rw [HE2.out]; omega), rfl⟩
end Go.Proofs.Ytldhbgefpfmkmaa
