/- Layer 6: what is put is read, and what is read is put; no Go here. -/
import Derived.Test.YtapgcbjlgekpeaaJZig5
namespace Go.Proofs.Ytapgcbjlgekpeaa
open Go.ChangeShapes Go.WideShapes Go.ChangeAt Go.RowKit

theorem Zig.drop_head {l rest : List Nat} {i c : Nat} (h : l.drop i = c :: rest) : i < l.length ∧ l[i]?.getD 0 = c ∧ l.drop (i + 1) = rest := by
  have hl : i < l.length := by
    rcases Nat.lt_or_ge i l.length with h1 | h1
    · exact h1
    · rw [List.drop_eq_nil_of_le h1] at h; cases h
  rw [List.drop_eq_getElem_cons hl] at h
  simp only [List.cons.injEq] at h
  refine ⟨hl, ?_, h.2⟩
  rw [List.getElem?_eq_getElem hl]
  exact h.1

theorem Zig.pow_next (i : Nat) : (2 : Nat) ^ (7 * (i + 1)) = 2 ^ (7 * i) * 128 := by rw [show 7 * (i + 1) = 7 * i + 7 by omega, Nat.pow_add]

theorem Zig.scan_bytes : ∀ (f z i v : Nat) (l rest : List Nat), l.drop i = Zig.bytes z ++ rest → v + z * 2 ^ (7 * i) < 18446744073709551616 → (0 < i → 0 < z) → i ≤ 9 → (Zig.bytes z).length ≤ f →
    Zig.scan l f i v = (Zig.zag (v + z * 2 ^ (7 * i)), i + (Zig.bytes z).length, 0)
  | 0, z, i, v, l, rest, _, _, _, _, hf => by
    exfalso
    have : 0 < (Zig.bytes z).length := by rw [Zig.bytes]; split <;> simp
    omega
  | f + 1, z, i, v, l, rest, hd, hm, hz, hi, hf => by
    have h9 : i = 9 → z < 2 := fun h => by
      subst h
      have : z * 2 ^ (7 * 9) < 2 * 2 ^ (7 * 9) := by
        have : (2 : Nat) * 2 ^ (7 * 9) = 18446744073709551616 := by decide
        omega
      exact Nat.lt_of_mul_lt_mul_right this
    by_cases h : z < 128
    · rw [Zig.bytes_last h] at hd ⊢
      obtain ⟨h1, h2, _⟩ := Zig.drop_head hd
      rw [Zig.scan_last l f i v h1 (by rw [h2]; intro hh; rcases hh with ⟨a, b⟩ | ⟨a, b⟩; have := h9 a; omega; have := hz a; omega) (by rw [h2]; exact h), h2]
      rfl
    · have hp := Zig.pow_next i
      have e : z % 128 * 2 ^ (7 * i) + z / 128 * (2 ^ (7 * i) * 128) = z * 2 ^ (7 * i) := by
        have : z / 128 * (2 ^ (7 * i) * 128) = (128 * (z / 128)) * 2 ^ (7 * i) := by rw [Nat.mul_comm (2 ^ (7 * i)), ← Nat.mul_assoc, Nat.mul_comm (z / 128)]
        rw [this, ← Nat.add_mul]
        congr 1
        omega
      rw [Zig.bytes_more h] at hd hf ⊢
      obtain ⟨h1, h2, h3⟩ := Zig.drop_head hd
      have hmod : (z % 128 + 128) % 128 = z % 128 := by omega
      have i8 : i ≤ 8 := by
        rcases Nat.lt_or_ge i 9 with h8 | h8
        · omega
        · have := h9 (by omega); omega
      rw [Zig.scan_more l f i v h1 (by rw [h2]; omega) (by rw [h2]; omega), h2, hmod]
      have ih := Zig.scan_bytes f (z / 128) (i + 1) (v + z % 128 * 2 ^ (7 * i)) l rest h3 (by rw [hp]; omega) (fun _ => by omega) (by omega) (by simpa using hf)
      rw [ih, hp, Nat.add_assoc, e, List.length_cons]
      congr 2
      omega

theorem Zig.get_bytes (n : Int) (hn : I64 n) (rest : List Nat) : Zig.get (Zig.bytes (Zig.zig n) ++ rest) = (n, (Zig.bytes (Zig.zig n)).length, 0) := by
  unfold Zig.get
  have h := Zig.scan_bytes ((Zig.bytes (Zig.zig n) ++ rest).length + 1) (Zig.zig n) 0 0 (Zig.bytes (Zig.zig n) ++ rest) rest rfl (by have := Zig.zig_lt n hn; simp; omega) (by omega) (by omega) (by simp; omega)
  rw [h]
  simp [Zig.zag_zig]

theorem Zig.run_put : ∀ (l : List Int) (f : Nat) (acc : List Int), (∀ n ∈ l, I64 n) → (Zig.put l).length ≤ f → Zig.run f acc (Zig.put l) = (acc ++ l, 0)
  | [], f, acc, _, _ => by rw [Zig.run_end f acc _ (by simp [Zig.put])]; simp
  | n :: l, f, acc, hl, hf => by
    have hp : Zig.put (n :: l) = Zig.bytes (Zig.zig n) ++ Zig.put l := by simp [Zig.put]
    have hpos : 0 < (Zig.bytes (Zig.zig n)).length := by rw [Zig.bytes]; split <;> simp
    have hg := Zig.get_bytes n (hl n (by simp)) (Zig.put l)
    rw [hp] at hf ⊢
    rw [List.length_append] at hf
    obtain ⟨f', rfl⟩ : ∃ f', f = f' + 1 := ⟨f - 1, by omega⟩
    rw [Zig.run_more f' acc _ (by rw [List.length_append]; omega) (by rw [hg]), hg]
    simp only [List.drop_left]
    rw [Zig.run_put l f' _ (fun m hm => hl m (by simp [hm])) (by omega), List.append_assoc]
    rfl
theorem Zig.all_put (l : List Int) (hl : ∀ n ∈ l, I64 n) : Zig.all (Zig.put l) = (l, 0) := by
  unfold Zig.all
  rw [Zig.run_put l _ [] hl (Nat.le_refl _)]
  rfl

theorem Zig.scan_canon (l : List Nat) (hl : ∀ n ∈ l, n < 256) : ∀ (f i v : Nat) (n : Int) (u : Nat), Zig.scan l f i v = (n, u, 0) → ∃ z, Zig.bytes z = (l.drop i).take (u - i) ∧ Zig.zig n = v + z * 2 ^ (7 * i) ∧ (0 < i → 0 < z) ∧ i < u
  | 0, i, v, n, u, h => by simp [Zig.scan] at h
  | f + 1, i, v, n, u, h => by
    by_cases hi : i < l.length
    · by_cases hw : i = 9 ∧ 1 < l[i]?.getD 0 ∨ 0 < i ∧ l[i]?.getD 0 = 0
      · rw [Zig.scan_wrong l f i v hi hw] at h; simp at h
      · by_cases hc : l[i]?.getD 0 < 128
        · rw [Zig.scan_last l f i v hi hw hc] at h
          simp only [Prod.mk.injEq, and_true] at h
          obtain ⟨h1, h2⟩ := h
          refine ⟨l[i]?.getD 0, ?_, ?_, fun h0 => by omega, by omega⟩
          · rw [Zig.bytes_last hc, ← h2, List.drop_eq_getElem_cons hi, List.getElem?_eq_getElem hi, show i + 1 - i = 1 by omega]
            rfl
          · rw [← h1, Zig.zig_zag]
        · rw [Zig.scan_more l f i v hi hw hc] at h
          obtain ⟨z, h1, h2, h3, h4⟩ := Zig.scan_canon l hl f (i + 1) _ n u h
          have hc2 : l[i]?.getD 0 < 256 := by rw [List.getElem?_eq_getElem hi]; exact hl _ (List.getElem_mem _)
          have hz := h3 (by omega)
          obtain ⟨c, ec⟩ : ∃ c, c = l[i]?.getD 0 := ⟨_, rfl⟩
          rw [← ec] at hc hc2 h2
          refine ⟨z * 128 + c % 128, ?_, ?_, fun _ => by omega, by omega⟩
          · rw [Zig.bytes_more (by omega), show (z * 128 + c % 128) / 128 = z by omega, show (z * 128 + c % 128) % 128 + 128 = c by omega, h1, List.drop_eq_getElem_cons hi]
            rw [List.getElem?_eq_getElem hi] at ec
            simp only [Option.getD_some] at ec
            rw [← ec, show u - i = (u - (i + 1)) + 1 by omega, List.take_succ_cons]
          · rw [h2, Zig.pow_next, Nat.add_mul, Nat.add_assoc, Nat.add_comm (c % 128 * _)]
            congr 2
            rw [Nat.mul_comm (2 ^ (7 * i)), Nat.mul_assoc]
    · rw [Zig.scan_end l (f + 1) i v hi] at h; simp at h
theorem Zig.get_canon (l : List Nat) (hl : ∀ n ∈ l, n < 256) (h : (Zig.get l).2.2 = 0) : Zig.bytes (Zig.zig (Zig.get l).1) = l.take (Zig.get l).2.1 := by
  have h' : Zig.scan l (l.length + 1) 0 0 = ((Zig.get l).1, (Zig.get l).2.1, 0) := Prod.ext rfl (Prod.ext rfl h)
  obtain ⟨z, h1, h2, _, _⟩ := Zig.scan_canon l hl _ 0 0 _ _ h'
  rw [h2]
  simpa using h1

theorem Zig.run_canon : ∀ (f : Nat) (acc : List Int) (l : List Nat) (m : List Int), (∀ n ∈ l, n < 256) → l.length ≤ f → Zig.run f acc l = (m, 0) → Zig.put m = Zig.put acc ++ l
  | 0, acc, l, m, _, hf, h => by
    have : l = [] := List.eq_nil_of_length_eq_zero (by omega)
    subst this
    simp [Zig.run] at h
    subst h
    simp
  | f + 1, acc, l, m, hl, hf, h => by
    by_cases h0 : l.length = 0
    · rw [Zig.run_end _ _ _ h0] at h
      simp at h
      subst h
      rw [List.eq_nil_of_length_eq_zero h0, List.append_nil]
    · by_cases he : (Zig.get l).2.2 = 0
      · rw [Zig.run_more f acc l h0 he] at h
        have hle := (Zig.get_le l).2 he
        have := Zig.run_canon f _ _ m (fun n hn => hl n (List.mem_of_mem_drop hn)) (by rw [List.length_drop]; omega) h
        rw [this]
        have hc := Zig.get_canon l hl he
        have hp : Zig.put (acc ++ [(Zig.get l).1]) = Zig.put acc ++ l.take (Zig.get l).2.1 := by
          rw [← hc]
          simp [Zig.put]
        rw [hp, List.append_assoc, List.take_append_drop]
      · rw [Zig.run_bad f acc l h0 he] at h
        simp at h
        exact absurd h.2 he
theorem Zig.all_canon (l : List Nat) (hl : ∀ n ∈ l, n < 256) (h : (Zig.all l).2 = 0) : Zig.put (Zig.all l).1 = l := by
  have := Zig.run_canon l.length [] l (Zig.all l).1 hl (Nat.le_refl _) (Prod.ext rfl h)
  simpa [Zig.put] using this

theorem Zig.run_spec : ∀ (f : Nat) (acc : List Int) (l : List Nat), (∀ n ∈ l, n < 256) → (∀ n ∈ acc, I64 n) → (Zig.run f acc l).2 ≤ 2 ∧ (∀ n ∈ (Zig.run f acc l).1, I64 n) ∧ (Zig.run f acc l).1.length ≤ acc.length + l.length
  | 0, acc, l, _, ha => by simp [Zig.run]; exact ha
  | f + 1, acc, l, hl, ha => by
    by_cases h0 : l.length = 0
    · rw [Zig.run_end _ _ _ h0]; exact ⟨by simp, ha, by simp⟩
    · by_cases he : (Zig.get l).2.2 = 0
      · rw [Zig.run_more f acc l h0 he]
        have hle := (Zig.get_le l).2 he
        have := Zig.run_spec f (acc ++ [(Zig.get l).1]) (l.drop (Zig.get l).2.1) (fun n hn => hl n (List.mem_of_mem_drop hn)) (fun n hn => by
          rcases List.mem_append.1 hn with h | h
          · exact ha n h
          · simp at h; rw [h]; exact Zig.get_I64 l hl)
        refine ⟨this.1, this.2.1, ?_⟩
        have h3 := this.2.2
        rw [List.length_append, List.length_drop] at h3
        simp at h3
        omega
      · rw [Zig.run_bad f acc l h0 he]
        exact ⟨(Zig.get_le l).1, by simp, by simp⟩
theorem Zig.all_spec (l : List Nat) (hl : ∀ n ∈ l, n < 256) : (Zig.all l).2 ≤ 2 ∧ (∀ n ∈ (Zig.all l).1, I64 n) ∧ (Zig.all l).1.length ≤ l.length := by
  have := Zig.run_spec l.length [] l hl (by simp)
  simpa [Zig.all] using this
end Go.Proofs.Ytapgcbjlgekpeaa
