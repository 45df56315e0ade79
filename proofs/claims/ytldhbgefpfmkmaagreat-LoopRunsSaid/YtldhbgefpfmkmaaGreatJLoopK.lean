/- Layer 55: what came is what was served, and what is left: as data. -/
import Derived.Test.YtldhbgefpfmkmaaGreatJLoop3
namespace Go.Proofs.YtldhbgefpfmkmaaGreat
open Go.ChangeShapes Go.WideShapes Go.ChangeAt Go.RowKit

theorem LS.rows_len (p : Pol) (C : Nat → Int) : ∀ T, (LS.at p C T).rows.length = T
  | 0 => rfl
  | T + 1 => by
    show ((LS.at p C T).rows ++ [_]).length = _
    rw [List.length_append, List.length_singleton, LS.rows_len p C T]
theorem LS.rows_at (p : Pol) (C : Nat → Int) : ∀ T k, k < T → (LS.at p C T).rows[k]? = some (LS.row p (C k) k (LS.at p C k))
  | 0, k, h => absurd h (Nat.not_lt_zero k)
  | T + 1, k, h => by
    show ((LS.at p C T).rows ++ [LS.row p (C T) T (LS.at p C T)])[k]? = _
    by_cases hk : k < T
    · rw [List.getElem?_append_left (by rw [LS.rows_len]; exact hk)]
      exact LS.rows_at p C T k hk
    · obtain rfl : k = T := by omega
      rw [List.getElem?_append_right (by rw [LS.rows_len]; exact Nat.le_refl _), LS.rows_len]
      simp
def Lp.most (l : List Adv) : Int := Sat.sum (l.map fun s => s.want)
theorem Sat.clamp_mono {a b : Int} (h : a ≤ b) : Sat.clamp a ≤ Sat.clamp b := by
  unfold Sat.clamp
  repeat' split
  all_goals omega
theorem Lp.most_step (l : List Adv) (k : Nat) (h : k < l.length) : Sat.sum ((l.map fun s => s.want).take (k + 1)) = Sat.clamp (Sat.sum ((l.map fun s => s.want).take k) + (l[k]?.getD default).want) := by
  rw [Sat.sum_step _ k (by rw [List.length_map]; exact h), List.getElem?_map, List.getElem?_eq_getElem h]
  rfl
theorem Lp.sum_most (l : List Adv) (hz : ∀ j, j < l.length → Shp.code (l[j]?.getD default) = 0) (t : Int) : Shp.sum l t ≤ Lp.most l := by
  have key : ∀ k, k ≤ l.length → Sat.sum ((l.map fun s => Shp.at s t).take k) ≤ Sat.sum ((l.map fun s => s.want).take k) := by
    intro k
    induction k with
    | zero => intro _; exact Int.le_refl _
    | succ k ih =>
      intro hk
      rw [Shp.sum_step l t k (by omega), Lp.most_step l k (by omega)]
      exact Sat.clamp_mono (by have h1 := ih (by omega); have h2 := (Shp.at_in (hz k (by omega)) t).2; omega)
  have := key l.length (Nat.le_refl _)
  rwa [List.take_of_length_le (by rw [List.length_map]; exact Nat.le_refl _), List.take_of_length_le (by rw [List.length_map]; exact Nat.le_refl _)] at this
theorem Lp.err_ok {p : Pol} {t : Int} {l : List Adv} (h : Lp.err p t l = 0) : p.ok = true ∧ (∀ j, j < l.length → Shp.code (l[j]?.getD default) = 0) ∧ 0 ≤ t ∧ t ≤ 1024 := by
  unfold Lp.err at h
  split at h
  · rename_i ho
    split at h
    · rename_i h1; exact absurd h h1
    · rename_i h1
      split at h
      · omega
      · exact ⟨ho, Lp.bad_zero l l.length (by simpa using h1), by omega, by omega⟩
  · omega
theorem Sat.clamp_id {x : Int} (h : I64 x) : Sat.clamp x = x := by unfold Sat.clamp; unfold I64 at h; split <;> (try split) <;> omega

/-- As long as no end is met, what came is what was served, and what is left. -/
theorem Lp.keeps (p : Pol) (hp : p.In) (hok : p.ok = true) (C : Nat → Int) (M : Int) (hC : ∀ i, 0 ≤ C i ∧ C i ≤ M) (hM : 64 * M < 9223372036854775807) (T : Nat) (hT : T ≤ 40) :
    ∀ k, k ≤ T → (Lp.tot (LS.at p C T).rows k).load = (Lp.tot (LS.at p C T).rows k).repl + (LS.at p C k).left ∧ 0 ≤ (Lp.tot (LS.at p C T).rows k).repl ∧ (Lp.tot (LS.at p C T).rows k).load ≤ k * M ∧ (Lp.tot (LS.at p C T).rows k).why = (LS.at p C k).left ∧ 0 ≤ (LS.at p C k).left
  | 0, _ => ⟨rfl, Int.le_refl _, by show (0 : Int) ≤ _; simp, rfl, Int.le_refl _⟩
  | k + 1, hk => by
    obtain ⟨h1, h2, h3, h4, h5⟩ := Lp.keeps p hp hok C M hC hM T hT k (by omega)
    have hc := hC k
    have hM0 : 0 ≤ M := by omega
    have hg := LS.good_at p hp hok C (fun i => ⟨(hC i).1, by have := (hC i).2; omega⟩) k (by omega)
    have hsv := LS.serves_in (f := LS.at p C k) (p := p) (c := C k) hok hg.r1 h5 hc.1
    have hkM : (k : Int) * M ≤ 40 * M := Int.mul_le_mul_of_nonneg_right (by omega) hM0
    have hall : LS.all (C k) (LS.at p C k) = (LS.at p C k).left + C k := by
      unfold LS.all
      exact Sat.clamp_id ⟨by omega, by omega⟩
    have hr : ((LS.at p C T).rows[k]?.getD default) = LS.row p (C k) k (LS.at p C k) := by rw [LS.rows_at p C T k (by omega)]; rfl
    have e1 : (Lp.tot (LS.at p C T).rows (k + 1)).load = Sat.clamp ((Lp.tot (LS.at p C T).rows k).load + C k) := by
      show Sat.clamp (_ + ((LS.at p C T).rows[k]?.getD default).load) = _
      rw [hr]; rfl
    have e2 : (Lp.tot (LS.at p C T).rows (k + 1)).repl = Sat.clamp ((Lp.tot (LS.at p C T).rows k).repl + LS.serves p (C k) (LS.at p C k)) := by
      show Sat.clamp (_ + ((LS.at p C T).rows[k]?.getD default).repl) = _
      rw [hr]; rfl
    have e3 : (Lp.tot (LS.at p C T).rows (k + 1)).why = LS.all (C k) (LS.at p C k) - LS.serves p (C k) (LS.at p C k) := by
      show ((LS.at p C T).rows[k]?.getD default).why = _
      rw [hr]; rfl
    have e4 : (LS.at p C (k + 1)).left = LS.all (C k) (LS.at p C k) - LS.serves p (C k) (LS.at p C k) := rfl
    rw [Sat.clamp_id ⟨by omega, by omega⟩] at e1
    rw [Sat.clamp_id ⟨by omega, by omega⟩] at e2
    have hk1 : ((k + 1 : Nat) : Int) * M = k * M + M := by rw [show ((k + 1 : Nat) : Int) = (k : Int) + 1 by omega, Int.add_mul, Int.one_mul]
    rw [e1, e2, e3, e4, hk1]
    omega
/-- If the least replicas serve all that may come, nothing is left. -/
theorem Lp.none_left (p : Pol) (hp : p.In) (hok : p.ok = true) (C : Nat → Int) (M : Int) (hC : ∀ i, 0 ≤ C i ∧ C i ≤ M) (hM : M ≤ 9223372036854775807) (hm : M ≤ Sat.clamp (p.mn * p.tg)) :
    ∀ k, k ≤ 100000 → (LS.at p C k).left = 0
  | 0, _ => rfl
  | k + 1, hk => by
    have ih := Lp.none_left p hp hok C M hC hM hm k (by omega)
    have hc := hC k
    have hg := LS.good_at p hp hok C (fun i => ⟨(hC i).1, by have := (hC i).2; omega⟩) k (by omega)
    have hf := Pol.fine hok
    have e4 : (LS.at p C (k + 1)).left = LS.all (C k) (LS.at p C k) - LS.serves p (C k) (LS.at p C k) := rfl
    have ea : LS.all (C k) (LS.at p C k) = C k := by unfold LS.all; rw [ih, Sat.clamp_id ⟨by omega, by omega⟩]; omega
    have es : LS.serves p (C k) (LS.at p C k) = min (LS.all (C k) (LS.at p C k)) (Sat.clamp ((LS.at p C k).repl * p.tg)) := rfl
    have hmul : p.mn * p.tg ≤ (LS.at p C k).repl * p.tg := Int.mul_le_mul_of_nonneg_right hg.r1 (by have := hf.2.2.2.2.1; omega)
    have h3 := Sat.clamp_mono hmul
    rw [e4, es, ea]
    omega
theorem Lp.long_zero (l : List Adv) : ∀ k, (∀ j, j < k → (l[j]?.getD default).why = 0) → Lp.streak l k = 0 ∧ Lp.long l k = 0
  | 0, _ => ⟨rfl, rfl⟩
  | k + 1, h => by
    obtain ⟨h1, h2⟩ := Lp.long_zero l k (fun j hj => h j (by omega))
    have e1 : Lp.streak l (k + 1) = 0 := by unfold Lp.streak; rw [if_pos (h k (by omega))]
    refine ⟨e1, ?_⟩
    show max (Lp.long l k) (Lp.streak l (k + 1)) = 0
    rw [e1, h2]
    omega
theorem Lp.none_long (p : Pol) (hp : p.In) (hok : p.ok = true) (C : Nat → Int) (M : Int) (hC : ∀ i, 0 ≤ C i ∧ C i ≤ M) (hM : M ≤ 9223372036854775807) (hm : M ≤ Sat.clamp (p.mn * p.tg)) (T : Nat) (hT : T ≤ 40) : Lp.long (LS.at p C T).rows T = 0 := by
  refine (Lp.long_zero _ T (fun j hj => ?_)).2
  rw [LS.rows_at p C T j hj]
  have := Lp.none_left p hp hok C M hC hM hm (j + 1) (by omega)
  exact this
end Go.Proofs.YtldhbgefpfmkmaaGreat
