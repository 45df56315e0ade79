/- Layer 27: a run of some picks, and a run of the others behind it: as data. -/
import Derived.Test.YtldhbgefpfmkmaaJSched4
namespace Go.Proofs.Ytldhbgefpfmkmaa
open Go.ChangeShapes Go.WideShapes Go.ChangeAt Go.RowKit

theorem Tk.at_congr {n : Nat} {u0 : Int} {T : Nat → Toy} {P Q : List Int} : ∀ k, (∀ i, i < k → P[i]?.getD 0 = Q[i]?.getD 0) → Tk.at n u0 T P k = Tk.at n u0 T Q k
  | 0, _ => rfl
  | k + 1, h => by
    show Tk.step n u0 (P[k]?.getD 0) (Tk.at n u0 T P k) = Tk.step n u0 (Q[k]?.getD 0) (Tk.at n u0 T Q k)
    rw [Tk.at_congr k (fun i hi => h i (by omega)), h k (by omega)]
/-- As long as nothing stopped it, a run uses all picks. -/
theorem Tk.used_all {n : Nat} {u0 : Int} {T : Nat → Toy} {P : List Int} : ∀ k, ((Tk.at n u0 T P k).stop = false → (Tk.at n u0 T P k).r = k) ∧ ((Tk.at n u0 T P k).stop = true → (Tk.at n u0 T P k).r < k)
  | 0 => ⟨fun _ => rfl, fun h => by cases h⟩
  | k + 1 => by
    have ih := Tk.used_all (n := n) (u0 := u0) (T := T) (P := P) k
    have e : Tk.at n u0 T P (k + 1) = Tk.step n u0 (P[k]?.getD 0) (Tk.at n u0 T P k) := rfl
    rw [e]
    generalize Tk.at n u0 T P k = s at ih
    unfold Tk.step
    cases hs : s.stop with
    | true =>
      rw [if_pos rfl]
      have := ih.2 hs
      exact ⟨fun h => (by rw [hs] at h; cases h), fun _ => by omega⟩
    | false =>
      rw [if_neg (by simp)]
      have := ih.1 hs
      split
      · exact ⟨fun h => (by cases h), fun _ => by show s.r < k + 1; omega⟩
      · exact ⟨fun _ => (by show s.r + 1 = k + 1; omega), fun h => (by cases h)⟩
theorem Tk.sum_set (L : List Int) (x : Nat) (hx : x < L.length) : (L.set x (L[x]?.getD 0 + 1)).sum = L.sum + 1 := by
  induction L generalizing x with
  | nil => simp at hx
  | cons a L ih =>
    cases x with
    | zero => simp; omega
    | succ x =>
      simp only [List.set_cons_succ, List.sum_cons, List.getElem?_cons_succ]
      rw [ih x (by simpa using hx)]
      omega
/-- As many steps are done as picks are used. -/
theorem Tk.sum_st {n : Nat} {u0 : Int} {T : Nat → Toy} (hT : ∀ i, i < n → (T i).In ∧ 0 ≤ (T i).phase ∧ (T i).phase ≤ 1000) (P : List Int) : ∀ k, (Tk.at n u0 T P k).st.sum = (Tk.at n u0 T P k).r
  | 0 => by
    show (List.replicate n (0 : Int)).sum = ((0 : Nat) : Int)
    induction n with
    | zero => rfl
    | succ n ih => rw [List.replicate_succ, List.sum_cons, ih (fun i hi => hT i (by omega))]; rfl
  | k + 1 => by
    have ih := Tk.sum_st hT P k (u0 := u0)
    have hg := Tk.good (u0 := u0) hT P k
    have e : Tk.at n u0 T P (k + 1) = Tk.step n u0 (P[k]?.getD 0) (Tk.at n u0 T P k) := rfl
    rw [e]
    generalize Tk.at n u0 T P k = s at ih hg
    unfold Tk.step
    split
    · exact ih
    · split
      · exact ih
      · rename_i hn
        obtain ⟨x, ex, hx, _⟩ := Tk.next_in hn
        rw [ex, Int.toNat_natCast]
        show (s.st.set x (s.st[x]?.getD 0 + 1)).sum = ((s.r + 1 : Nat) : Int)
        rw [Tk.sum_set s.st x (by rw [hg.2.1]; exact hx), ih]
        omega
/-- The run of all is that of the first ones, and of the others behind it. -/
theorem Tk.parts {n : Nat} {T : Nat → Toy} {P : List Int} (hT : ∀ i, i < n → (T i).In ∧ 0 ≤ (T i).phase ∧ (T i).phase ≤ 1000) (k : Nat) (ha : (Tk.at n 0 T P k).stop = false) :
    ∀ j, (Tk.at n 0 T P (k + j)).T = (Tk.at n ((Tk.at n 0 T P k).r : Nat) (Tk.at n 0 T P k).T (P.drop k) j).T ∧
      (Tk.at n 0 T P (k + j)).r = (Tk.at n 0 T P k).r + (Tk.at n ((Tk.at n 0 T P k).r : Nat) (Tk.at n 0 T P k).T (P.drop k) j).r ∧
      (Tk.at n 0 T P (k + j)).stop = (Tk.at n ((Tk.at n 0 T P k).r : Nat) (Tk.at n 0 T P k).T (P.drop k) j).stop ∧
      ∀ i, i < n → (Tk.at n 0 T P (k + j)).st[i]?.getD 0 = (Tk.at n 0 T P k).st[i]?.getD 0 + (Tk.at n ((Tk.at n 0 T P k).r : Nat) (Tk.at n 0 T P k).T (P.drop k) j).st[i]?.getD 0
  | 0 => by
    refine ⟨rfl, rfl, ha, fun i hi => ?_⟩
    show (Tk.at n 0 T P k).st[i]?.getD 0 = (Tk.at n 0 T P k).st[i]?.getD 0 + (List.replicate n (0 : Int))[i]?.getD 0
    rw [List.getElem?_replicate, if_pos hi]
    simp
  | j + 1 => by
    obtain ⟨h1, h2, h3, h4⟩ := Tk.parts hT k ha j
    have hg := Tk.good (u0 := 0) hT P k
    have hgw := Tk.good (u0 := 0) hT P (k + j)
    have hgb := Tk.good (n := n) (u0 := ((Tk.at n 0 T P k).r : Nat)) (T := (Tk.at n 0 T P k).T) (fun i hi => ⟨(hg.2.2.1 i hi).1, (hg.2.2.1 i hi).2.1, (hg.2.2.1 i hi).2.2.1⟩) (P.drop k) j
    have e1 : Tk.at n 0 T P (k + (j + 1)) = Tk.step n 0 (P[k + j]?.getD 0) (Tk.at n 0 T P (k + j)) := rfl
    have e2 : Tk.at n ((Tk.at n 0 T P k).r : Nat) (Tk.at n 0 T P k).T (P.drop k) (j + 1) = Tk.step n ((Tk.at n 0 T P k).r : Nat) ((P.drop k)[j]?.getD 0) (Tk.at n ((Tk.at n 0 T P k).r : Nat) (Tk.at n 0 T P k).T (P.drop k) j) := rfl
    rw [e1, e2, List.getElem?_drop]
    generalize Tk.at n ((Tk.at n 0 T P k).r : Nat) (Tk.at n 0 T P k).T (P.drop k) j = b at h1 h2 h3 h4 hgb
    generalize Tk.at n 0 T P (k + j) = s at h1 h2 h3 h4 hgw
    generalize Tk.at n 0 T P k = a at h2 h4
    unfold Tk.step
    rw [← h3]
    cases hs : s.stop with
    | true => rw [if_pos rfl, if_pos rfl]; exact ⟨h1, h2, h3, h4⟩
    | false =>
      simp only [Bool.false_eq_true, if_false]
      have e3 : (0 : Int) + (s.r : Nat) = (a.r : Nat) + (b.r : Nat) := by rw [h2]; omega
      rw [e3, h1]
      split
      · exact ⟨rfl, h2, rfl, h4⟩
      · rename_i hn
        obtain ⟨x, ex, hx, _⟩ := Tk.next_in hn
        rw [ex, Int.toNat_natCast]
        refine ⟨by rw [← h1], by show s.r + 1 = a.r + (b.r + 1); omega, rfl, fun i hi => ?_⟩
        show (s.st.set x (s.st[x]?.getD 0 + 1))[i]?.getD 0 = a.st[i]?.getD 0 + (b.st.set x (b.st[x]?.getD 0 + 1))[i]?.getD 0
        by_cases e : i = x
        · subst e
          rw [List.getElem?_set_self (by rw [hgw.2.1]; exact hx), List.getElem?_set_self (by rw [hgb.2.1]; exact hx)]
          simp only [Option.getD_some]
          rw [h4 i hi]
          omega
        · rw [List.getElem?_set_ne (fun h => e h.symm), List.getElem?_set_ne (fun h => e h.symm)]
          exact h4 i hi
end Go.Proofs.Ytldhbgefpfmkmaa
