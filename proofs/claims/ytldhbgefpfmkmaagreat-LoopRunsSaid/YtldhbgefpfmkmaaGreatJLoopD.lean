/- Layer 55: what happens tick by tick, as data (a row is kept as an Adv: tick = Tick, load = Comes, want = Replicas, repl = Serves, why = Left). -/
import Derived.Test.YtldhbgefpfmkmaaGreatJShapeD
import Derived.Test.YtldhbgefpfmkmaaGreatJFol
namespace Go.Proofs.YtldhbgefpfmkmaaGreat
open Go.ChangeShapes Go.WideShapes Go.ChangeAt Go.RowKit

structure LS where
  sam : List Samp
  past : List Adv
  repl : Int
  left : Int
  rows : List Adv
def LS.all (c : Int) (f : LS) : Int := Sat.clamp (f.left + c)
def LS.serves (p : Pol) (c : Int) (f : LS) : Int := min (LS.all c f) (Sat.clamp (f.repl * p.tg))
def LS.row (p : Pol) (c : Int) (k : Nat) (f : LS) : Adv := ⟨k, c, f.repl, LS.serves p c f, LS.all c f - LS.serves p c f⟩
def LS.sam' (c : Int) (k : Nat) (f : LS) : List Samp := Ser.put f.sam 64 ⟨k, LS.all c f⟩
def LS.adv (p : Pol) (c : Int) (k : Nat) (f : LS) : Adv := Dec.of p (LS.sam' c k f) f.past
def LS.step (p : Pol) (c : Int) (k : Nat) (f : LS) : LS :=
  ⟨LS.sam' c k f, Ring.next 16 f.past (LS.adv p c k f), (LS.adv p c k f).repl, LS.all c f - LS.serves p c f, f.rows ++ [LS.row p c k f]⟩
def LS.zero (p : Pol) : LS := ⟨[], [], p.mn, 0, []⟩
def LS.at (p : Pol) (C : Nat → Int) : Nat → LS
  | 0 => LS.zero p
  | k + 1 => LS.step p (C k) k (LS.at p C k)
def Lp.bad (l : List Adv) : Nat → Int
  | 0 => 0
  | k + 1 => if Lp.bad l k ≠ 0 then Lp.bad l k else Shp.code (l[k]?.getD default)
def Lp.err (p : Pol) (ticks : Int) (l : List Adv) : Int :=
  if p.ok = true then (if Lp.bad l l.length ≠ 0 then Lp.bad l l.length else if ticks < 0 ∨ 1024 < ticks then 12 else 0) else 7
theorem Lp.bad_up (l : List Adv) {k : Nat} (h : Lp.bad l k ≠ 0) : ∀ d, Lp.bad l (k + d) = Lp.bad l k
  | 0 => rfl
  | d + 1 => by
    have ih := Lp.bad_up l h d
    show (if Lp.bad l (k + d) ≠ 0 then _ else _) = _
    rw [if_pos (by rw [ih]; exact h)]
    exact ih
theorem Lp.bad_zero (l : List Adv) : ∀ n, Lp.bad l n = 0 → ∀ j, j < n → Shp.code (l[j]?.getD default) = 0
  | 0, _, j, h => absurd h (Nat.not_lt_zero j)
  | n + 1, e, j, h => by
    have e2 : (if Lp.bad l n ≠ 0 then Lp.bad l n else Shp.code (l[n]?.getD default)) = 0 := e
    by_cases hb : Lp.bad l n = 0
    · rw [if_neg (by simpa using hb)] at e2
      by_cases hj : j = n
      · subst hj; exact e2
      · exact Lp.bad_zero l n hb j (by omega)
    · rw [if_pos hb] at e2; exact absurd e2 hb

theorem Dec.repl_in (p : Pol) (hok : p.ok = true) (l : List Samp) (h0 : l.length ≠ 0) (past : List Adv) : p.mn ≤ (Dec.of p l past).repl ∧ (Dec.of p l past).repl ≤ p.mx := by
  obtain ⟨e, _⟩ := Dec.of_some (past := past) hok h0
  rw [e]
  have hf := Pol.fine hok
  have hb : ∀ x, p.mn ≤ p.bound x ∧ p.bound x ≤ p.mx := by
    intro x
    obtain ⟨h1, h2, h3, h4, _⟩ := hf
    unfold Pol.bound Sat.clampTo
    rw [if_pos hok]
    repeat' split
    all_goals omega
  exact hb _

structure LS.Good (p : Pol) (k : Nat) (f : LS) : Prop where
  srt : Ser.Sorted f.sam
  len : f.sam.length ≤ 64
  In : ∀ a ∈ f.sam, a.In
  past : f.past.length ≤ 16
  pastIn : ∀ a ∈ f.past, a.In
  r1 : p.mn ≤ f.repl
  r2 : f.repl ≤ p.mx
  l0 : 0 ≤ f.left
  l1 : f.left ≤ 9223372036854775807
  rows : f.rows.length = k
  rowsIn : ∀ a ∈ f.rows, a.In ∧ p.mn ≤ a.want ∧ a.want ≤ p.mx

theorem Sat.clamp_in (x : Int) : I64 (Sat.clamp x) := by unfold Sat.clamp I64; split <;> (try split) <;> omega
theorem Sat.clamp_pos {x : Int} (h : 0 ≤ x) : 0 ≤ Sat.clamp x := by unfold Sat.clamp; split <;> (try split) <;> omega
section
variable {p : Pol} {c : Int} {k : Nat} {f : LS}
theorem LS.all_in (hl : 0 ≤ f.left) (hc : 0 ≤ c) : 0 ≤ LS.all c f ∧ LS.all c f ≤ 9223372036854775807 := by
  have h1 := Sat.clamp_in (f.left + c)
  have h2 := Sat.clamp_pos (x := f.left + c) (by omega)
  unfold LS.all
  exact ⟨h2, h1.2⟩
theorem LS.serves_in (hok : p.ok = true) (hr : p.mn ≤ f.repl) (hl : 0 ≤ f.left) (hc : 0 ≤ c) : 0 ≤ LS.serves p c f ∧ LS.serves p c f ≤ LS.all c f := by
  have hf := Pol.fine hok
  have h1 := LS.all_in (f := f) hl hc
  have h2 := Sat.clamp_pos (x := f.repl * p.tg) (Int.mul_nonneg (by have := hf.1; omega) (by have := hf.2.2.2.2.1; omega))
  unfold LS.serves
  omega
theorem LS.good_step (hp : p.In) (hok : p.ok = true) (hg : LS.Good p k f) (hk : k ≤ 100000) (hc : 0 ≤ c) (hc2 : c ≤ 9223372036854775807) : LS.Good p (k + 1) (LS.step p c k f) := by
  obtain ⟨g1, g2, g3, g4, g5, g6, g7, g8, g9, g10, g11⟩ := hg
  have ha := LS.all_in (f := f) g8 hc
  have hs := LS.serves_in (f := f) hok g6 g8 hc
  have hx : (⟨k, LS.all c f⟩ : Samp).In := ⟨by show I64 (k : Int); unfold I64; omega, by show I64 (LS.all c f); unfold I64; omega⟩
  have q0 : (LS.sam' c k f).length ≠ 0 := Ser.put_pos _ (by omega) _
  have q3 : ∀ a ∈ LS.sam' c k f, a.In := Ser.put_In g3 64 _ hx
  have ho : (LS.adv p c k f).In := Dec.of_In p hp hok _ q0 q3 f.past
  have hr := Dec.repl_in p hok _ q0 f.past
  have hf := Pol.fine hok
  refine ⟨Ser.put_sorted g1 64 _, Ser.put_length (by omega) g2 _, q3, ?_, ?_, hr.1, hr.2, ?_, ?_, ?_, ?_⟩
  · have := Ring.next_len (room := 16) g4 (LS.adv p c k f); show (Ring.next 16 f.past _).length ≤ 16; omega
  · intro a h
    rcases Ring.next_mem h with h | h
    · exact g5 a h
    · exact h ▸ ho
  · show 0 ≤ LS.all c f - LS.serves p c f; omega
  · show LS.all c f - LS.serves p c f ≤ _; omega
  · show (f.rows ++ [_]).length = _; rw [List.length_append, List.length_singleton, g10]
  · intro a h
    have h : a ∈ f.rows ++ [LS.row p c k f] := h
    rcases List.mem_append.1 h with h | h
    · exact g11 a h
    · rw [List.mem_singleton] at h
      subst h
      obtain ⟨i1, i2, i3, i4, _⟩ := hf
      refine ⟨⟨?_, ?_, ?_, ?_, ?_⟩, g6, g7⟩
      · show I64 (k : Int); unfold I64; omega
      · show I64 c; unfold I64; omega
      · show I64 f.repl; unfold I64; omega
      · show I64 (LS.serves p c f); unfold I64; omega
      · show I64 (LS.all c f - LS.serves p c f); unfold I64; omega
end
theorem LS.good_zero (p : Pol) (hok : p.ok = true) : LS.Good p 0 (LS.zero p) := by
  have hf := Pol.fine hok
  exact ⟨Ser.nil_sorted, by simp [LS.zero], by simp [LS.zero], by simp [LS.zero], by simp [LS.zero], Int.le_refl _, hf.2.2.2.1, by simp [LS.zero], by simp [LS.zero], rfl, by simp [LS.zero]⟩
theorem LS.good_at (p : Pol) (hp : p.In) (hok : p.ok = true) (C : Nat → Int) (hC : ∀ i, 0 ≤ C i ∧ C i ≤ 9223372036854775807) : ∀ k, k ≤ 100000 → LS.Good p k (LS.at p C k)
  | 0, _ => LS.good_zero p hok
  | k + 1, h => LS.good_step hp hok (LS.good_at p hp hok C hC k (by omega)) (by omega) (hC k).1 (hC k).2
end Go.Proofs.YtldhbgefpfmkmaaGreat
