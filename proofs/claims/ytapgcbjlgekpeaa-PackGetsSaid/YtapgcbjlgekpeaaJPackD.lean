/- Layer 11: samples as differences, and back; no Go here. -/
import Derived.Test.YtapgcbjlgekpeaaJSer
import Derived.Test.YtapgcbjlgekpeaaJZig6
namespace Go.Proofs.Ytapgcbjlgekpeaa
open Go.ChangeShapes Go.WideShapes Go.ChangeAt Go.RowKit

def Pk.at (l : List Samp) (k : Nat) : Samp := l[k]?.getD default
def Pk.pt (l : List Samp) (k : Nat) : Int := if k = 0 then -1 else (Pk.at l (k - 1)).tick
def Pk.pv (l : List Samp) (k : Nat) : Int := if k = 0 then 0 else (Pk.at l (k - 1)).val
/-- What is wrong with the sample in that place. -/
def Pk.one (l : List Samp) (k : Nat) : Int := if Ser.code (Pk.at l k) = 0 then (if (Pk.at l k).tick ≤ Pk.pt l k then 15 else 0) else Ser.code (Pk.at l k)
def Pk.upto (l : List Samp) : Nat → Int
  | 0 => 0
  | k + 1 => if Pk.upto l k = 0 then Pk.one l k else Pk.upto l k
def Pk.check (l : List Samp) : Int := if 256 < l.length then 12 else Pk.upto l l.length
theorem Pk.upto_next {l : List Samp} {k : Nat} (h : Pk.upto l k = 0) : Pk.upto l (k + 1) = Pk.one l k := by
  show (if _ then _ else _) = _
  rw [if_pos h]
theorem Pk.upto_stop {l : List Samp} {k : Nat} (h : Pk.upto l k ≠ 0) : ∀ d, Pk.upto l (k + d) = Pk.upto l k
  | 0 => rfl
  | d + 1 => by
    have ih := Pk.upto_stop h d
    show (if Pk.upto l (k + d) = 0 then _ else Pk.upto l (k + d)) = _
    rw [ih, if_neg h]
theorem Pk.check_stop {l : List Samp} {k : Nat} (h256 : ¬ 256 < l.length) (hk : k < l.length) (h0 : Pk.upto l k = 0) (h1 : Pk.one l k ≠ 0) : Pk.check l = Pk.one l k := by
  unfold Pk.check
  rw [if_neg h256]
  have e := Pk.upto_next h0
  have := Pk.upto_stop (l := l) (k := k + 1) (by rw [e]; exact h1) (l.length - (k + 1))
  rw [show k + 1 + (l.length - (k + 1)) = l.length by omega] at this
  rw [this, e]
theorem Pk.check_fine {l : List Samp} (h256 : ¬ 256 < l.length) (h0 : Pk.upto l l.length = 0) : Pk.check l = 0 := by
  unfold Pk.check
  rw [if_neg h256, h0]
theorem Pk.code_cases (x : Samp) : (x.tick < 0 ∧ Ser.code x = 3) ∨ (¬ x.tick < 0 ∧ x.val < 0 ∧ Ser.code x = 4) ∨ (¬ x.tick < 0 ∧ ¬ x.val < 0 ∧ Ser.code x = 0) := by
  unfold Ser.code
  by_cases h1 : x.tick < 0
  · rw [if_pos h1]; exact .inl ⟨h1, rfl⟩
  · rw [if_neg h1]
    by_cases h2 : x.val < 0
    · rw [if_pos h2]; exact .inr (.inl ⟨h1, h2, rfl⟩)
    · rw [if_neg h2]; exact .inr (.inr ⟨h1, h2, rfl⟩)
theorem Pk.one_cases (l : List Samp) (k : Nat) : Pk.one l k = 0 ∨ Pk.one l k = 3 ∨ Pk.one l k = 4 ∨ Pk.one l k = 15 := by
  unfold Pk.one
  rcases Pk.code_cases (Pk.at l k) with ⟨_, e⟩ | ⟨_, _, e⟩ | ⟨_, _, e⟩
  · rw [e]; simp
  · rw [e]; simp
  · rw [e, if_pos rfl]; split <;> simp
theorem Pk.upto_all {l : List Samp} {n : Nat} (h : Pk.upto l n = 0) : ∀ k, k < n → Pk.one l k = 0 := by
  intro k hk
  have a : Pk.upto l k = 0 := by
    by_cases e : Pk.upto l k = 0
    · exact e
    · have := Pk.upto_stop e (n - k)
      rw [show k + (n - k) = n by omega, h] at this
      exact absurd this.symm e
  have b : Pk.upto l (k + 1) = 0 := by
    by_cases e : Pk.upto l (k + 1) = 0
    · exact e
    · have := Pk.upto_stop e (n - (k + 1))
      rw [show k + 1 + (n - (k + 1)) = n by omega, h] at this
      exact absurd this.symm e
  rw [← Pk.upto_next a]
  exact b
theorem Pk.one_fine {l : List Samp} {k : Nat} (h : Pk.one l k = 0) : 0 ≤ (Pk.at l k).tick ∧ 0 ≤ (Pk.at l k).val ∧ Pk.pt l k < (Pk.at l k).tick := by
  unfold Pk.one at h
  rcases Pk.code_cases (Pk.at l k) with ⟨_, e⟩ | ⟨_, _, e⟩ | ⟨h1, h2, e⟩
  · rw [e, if_neg (by decide)] at h; exact absurd h (by decide)
  · rw [e, if_neg (by decide)] at h; exact absurd h (by decide)
  · rw [e, if_pos rfl] at h
    by_cases h3 : (Pk.at l k).tick ≤ Pk.pt l k
    · rw [if_pos h3] at h; exact absurd h (by decide)
    · exact ⟨by omega, by omega, by omega⟩
theorem Pk.check_all {l : List Samp} (h : Pk.check l = 0) : l.length ≤ 256 ∧ ∀ k, k < l.length → 0 ≤ (Pk.at l k).tick ∧ 0 ≤ (Pk.at l k).val ∧ Pk.pt l k < (Pk.at l k).tick := by
  unfold Pk.check at h
  split at h
  · simp at h
  · exact ⟨by omega, fun k hk => Pk.one_fine (Pk.upto_all h k hk)⟩
theorem Pk.in_at {l : List Samp} (hl : ∀ a ∈ l, a.In) (k : Nat) (hk : k < l.length) : (Pk.at l k).In := by
  unfold Pk.at
  rw [List.getElem?_eq_getElem hk]
  exact hl _ (List.getElem_mem _)
/-- What lies ahead of a sample is a number between. -/
theorem Pk.ahead {l : List Samp} (hl : ∀ a ∈ l, a.In) (h : Pk.check l = 0) (k : Nat) (hk : k ≤ l.length) : -1 ≤ Pk.pt l k ∧ Pk.pt l k ≤ 9223372036854775807 ∧ 0 ≤ Pk.pv l k ∧ Pk.pv l k ≤ 9223372036854775807 := by
  unfold Pk.pt Pk.pv
  by_cases h0 : k = 0
  · simp [h0]
  · rw [if_neg h0, if_neg h0]
    have := (Pk.check_all h).2 (k - 1) (by omega)
    have i := Pk.in_at hl (k - 1) (by omega)
    have i1 := i.1.2
    have i2 := i.2.2
    omega

/-- The numbers of samples: how many, and by how much each is behind the one ahead. -/
def Pk.nums (l : List Samp) : Nat → List Int
  | 0 => [(l.length : Int)]
  | k + 1 => Pk.nums l k ++ [(Pk.at l k).tick - Pk.pt l k - 1, (Pk.at l k).val - Pk.pv l k]
theorem Pk.nums_len (l : List Samp) : ∀ k, (Pk.nums l k).length = 2 * k + 1
  | 0 => rfl
  | k + 1 => by
    show (Pk.nums l k ++ _).length = _
    rw [List.length_append, Pk.nums_len l k]
    simp
    omega
theorem Pk.nums_I64 {l : List Samp} (hl : ∀ a ∈ l, a.In) (h : Pk.check l = 0) : ∀ k, k ≤ l.length → ∀ n ∈ Pk.nums l k, I64 n
  | 0, _, n, hn => by
    have := (Pk.check_all h).1
    simp [Pk.nums] at hn
    subst hn
    unfold I64
    omega
  | k + 1, hk, n, hn => by
    have hn : n ∈ Pk.nums l k ++ [(Pk.at l k).tick - Pk.pt l k - 1, (Pk.at l k).val - Pk.pv l k] := hn
    rw [List.mem_append] at hn
    rcases hn with hn | hn
    · exact Pk.nums_I64 hl h k (by omega) n hn
    · have a := (Pk.check_all h).2 k (by omega)
      have b := Pk.ahead hl h k (by omega)
      have i := Pk.in_at hl k (by omega)
      have i1 := i.1.2
      have i2 := i.2.2
      simp at hn
      unfold I64
      omega
theorem Pk.nums_get (l : List Samp) : ∀ (n k : Nat), k < n → (Pk.nums l n)[2 * k + 1]?.getD 0 = (Pk.at l k).tick - Pk.pt l k - 1 ∧ (Pk.nums l n)[2 * k + 2]?.getD 0 = (Pk.at l k).val - Pk.pv l k
  | 0, k, h => by omega
  | n + 1, k, h => by
    have hl := Pk.nums_len l n
    show (Pk.nums l n ++ _)[2 * k + 1]?.getD 0 = _ ∧ (Pk.nums l n ++ _)[2 * k + 2]?.getD 0 = _
    by_cases e : k = n
    · subst e
      rw [List.getElem?_append_right (by omega), List.getElem?_append_right (by omega), hl]
      rw [show 2 * k + 1 - (2 * k + 1) = 0 by omega, show 2 * k + 2 - (2 * k + 1) = 1 by omega]
      exact ⟨rfl, rfl⟩
    · rw [List.getElem?_append_left (by omega), List.getElem?_append_left (by omega)]
      exact Pk.nums_get l n k (by omega)
theorem Pk.put_next (l : List Samp) (k : Nat) : Zig.put (Pk.nums l (k + 1)) = (Zig.put (Pk.nums l k) ++ Zig.bytes (Zig.zig ((Pk.at l k).tick - Pk.pt l k - 1))) ++ Zig.bytes (Zig.zig ((Pk.at l k).val - Pk.pv l k)) := by
  show Zig.put (Pk.nums l k ++ _) = _
  unfold Zig.put
  rw [List.flatMap_append, List.append_assoc]
  simp
theorem Pk.put_zero (l : List Samp) : Zig.put (Pk.nums l 0) = Zig.bytes (Zig.zig (l.length : Int)) := by
  show Zig.put [(l.length : Int)] = _
  unfold Zig.put
  simp

/-- The samples that numbers come to. -/
def Pk.un (m : List Int) : Nat → List Samp
  | 0 => []
  | k + 1 => Pk.un m k ++ [⟨Sat.clamp (Sat.clamp (Pk.pt (Pk.un m k) k + 1) + m[2 * k + 1]?.getD 0), Sat.clamp (Pk.pv (Pk.un m k) k + m[2 * k + 2]?.getD 0)⟩]
theorem Pk.un_len (m : List Int) : ∀ k, (Pk.un m k).length = k
  | 0 => rfl
  | k + 1 => by
    show (Pk.un m k ++ _).length = _
    rw [List.length_append, Pk.un_len m k]
    rfl
theorem Pk.un_last (m : List Int) (k : Nat) : Pk.at (Pk.un m (k + 1)) k = ⟨Sat.clamp (Sat.clamp (Pk.pt (Pk.un m k) k + 1) + m[2 * k + 1]?.getD 0), Sat.clamp (Pk.pv (Pk.un m k) k + m[2 * k + 2]?.getD 0)⟩ := by
  unfold Pk.at
  show (Pk.un m k ++ _)[k]?.getD default = _
  rw [List.getElem?_append_right (by rw [Pk.un_len]; omega), Pk.un_len, Nat.sub_self]
  rfl
theorem Pk.un_In (m : List Int) : ∀ k, ∀ a ∈ Pk.un m k, a.In
  | 0, a, h => by simp [Pk.un] at h
  | k + 1, a, h => by
    have h : a ∈ Pk.un m k ++ [_] := h
    rw [List.mem_append] at h
    rcases h with h | h
    · exact Pk.un_In m k a h
    · simp at h
      subst h
      exact ⟨Sat.clamp_I64 _, Sat.clamp_I64 _⟩
/-- What lies ahead of the next one. -/
theorem Pk.un_pt (m : List Int) (k : Nat) : Pk.pt (Pk.un m (k + 1)) (k + 1) = (Pk.at (Pk.un m (k + 1)) k).tick ∧ Pk.pv (Pk.un m (k + 1)) (k + 1) = (Pk.at (Pk.un m (k + 1)) k).val := by
  unfold Pk.pt Pk.pv
  rw [if_neg (by omega), if_neg (by omega)]
  exact ⟨rfl, rfl⟩
theorem Pk.un_ahead (m : List Int) (k : Nat) : I64 (Pk.pt (Pk.un m k) k) ∧ I64 (Pk.pv (Pk.un m k) k) := by
  cases k with
  | zero => simp [Pk.pt, Pk.pv, I64]
  | succ k =>
    rw [(Pk.un_pt m k).1, (Pk.un_pt m k).2]
    have := Pk.un_last m k
    rw [this]
    exact ⟨Sat.clamp_I64 _, Sat.clamp_I64 _⟩
theorem Pk.pt_take (l : List Samp) (k : Nat) (hk : k ≤ l.length) : Pk.pt (l.take k) k = Pk.pt l k ∧ Pk.pv (l.take k) k = Pk.pv l k := by
  unfold Pk.pt Pk.pv Pk.at
  by_cases h : k = 0
  · simp [h]
  · rw [if_neg h, if_neg h, if_neg h, if_neg h, List.getElem?_take_of_lt (by omega)]
    exact ⟨rfl, rfl⟩
theorem Pk.un_nums {l : List Samp} (hl : ∀ a ∈ l, a.In) (h : Pk.check l = 0) : ∀ k, k ≤ l.length → Pk.un (Pk.nums l l.length) k = l.take k
  | 0, _ => by simp [Pk.un]
  | k + 1, hk => by
    have ih := Pk.un_nums hl h k (by omega)
    show Pk.un _ k ++ [_] = _
    rw [ih, (Pk.pt_take l k (by omega)).1, (Pk.pt_take l k (by omega)).2]
    obtain ⟨g1, g2⟩ := Pk.nums_get l l.length k (by omega)
    have a := (Pk.check_all h).2 k (by omega)
    have b := Pk.ahead hl h k (by omega)
    have i := Pk.in_at hl k (by omega)
    have i1 := i.1.2
    have i2 := i.2.2
    rw [g1, g2]
    have e1 : Sat.clamp (Pk.pt l k + 1) = Pk.pt l k + 1 := Sat.clamp_of (by unfold I64; omega)
    rw [e1, show Pk.pt l k + 1 + ((Pk.at l k).tick - Pk.pt l k - 1) = (Pk.at l k).tick by omega, show Pk.pv l k + ((Pk.at l k).val - Pk.pv l k) = (Pk.at l k).val by omega, Sat.clamp_of i.1, Sat.clamp_of i.2]
    rw [List.take_add_one]
    unfold Pk.at
    rw [List.getElem?_eq_getElem (by omega)]
    rfl

/-- What Get says. -/
def Pk.pairs (m : List Int) : Nat := (m.length - 1) / 2
def Pk.get (b : List Nat) : List Samp × Int :=
  if (Zig.all b).2 = 0 then
    (if Pk.check (Pk.un (Zig.all b).1 (Pk.pairs (Zig.all b).1)) = 0 ∧ Zig.put (Pk.nums (Pk.un (Zig.all b).1 (Pk.pairs (Zig.all b).1)) (Pk.pairs (Zig.all b).1)) = b then (Pk.un (Zig.all b).1 (Pk.pairs (Zig.all b).1), 0) else ([], 10))
  else ([], Zig.errno (Zig.all b).2)
theorem Pk.get_put {l : List Samp} (hl : ∀ a ∈ l, a.In) (h : Pk.check l = 0) : Pk.get (Zig.put (Pk.nums l l.length)) = (l, 0) := by
  have e := Zig.all_put (Pk.nums l l.length) (Pk.nums_I64 hl h _ (Nat.le_refl _))
  have p : Pk.pairs (Pk.nums l l.length) = l.length := by unfold Pk.pairs; rw [Pk.nums_len]; omega
  have u := Pk.un_nums hl h l.length (Nat.le_refl _)
  rw [List.take_length] at u
  unfold Pk.get
  rw [e, if_pos rfl, p, u, if_pos ⟨h, rfl⟩]
theorem Pk.get_fine {b : List Nat} (hb : ∀ n ∈ b, n < 256) (h : (Pk.get b).2 = 0) : Pk.check (Pk.get b).1 = 0 ∧ Zig.put (Pk.nums (Pk.get b).1 (Pk.get b).1.length) = b := by
  unfold Pk.get at h ⊢
  split at h
  · rename_i h0
    split at h
    · rename_i h1
      rw [if_pos h0, if_pos h1]
      refine ⟨h1.1, ?_⟩
      simp only [Pk.un_len]
      exact h1.2
    · simp at h
  · rename_i h0
    exact absurd ((Zig.errno_ne (Zig.all_spec b hb).1).2 h) h0
theorem Pk.put_byte {l : List Int} (hl : ∀ n ∈ l, I64 n) : ∀ b ∈ Zig.put l, b < 256 := by
  intro b hb
  unfold Zig.put at hb
  obtain ⟨m, hm, hb⟩ := List.mem_flatMap.1 hb
  exact Zig.bytes_byte 9 _ (by have := Zig.zig_lt m (hl m hm); omega) b hb
end Go.Proofs.Ytapgcbjlgekpeaa
