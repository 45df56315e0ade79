/- A series as data: the order of puts of unlike ticks does not matter. -/
import Derived.Test.YtapgcbjlgekpeaaJSer
namespace Go.Proofs.Ytapgcbjlgekpeaa
open Go.ChangeShapes Go.WideShapes Go.ChangeAt Go.RowKit

def Ser.insR (x : Samp) : List Samp → List Samp
  | [] => [x]
  | a :: L => if a.tick < x.tick then a :: Ser.insR x L else if a.tick = x.tick then x :: L else x :: a :: L
theorem Ser.ins_R (x : Samp) : ∀ L, Ser.ins L x = Ser.insR x L
  | [] => by
    unfold Ser.ins Ser.insR
    rw [if_neg (by rintro ⟨h, _⟩; exact absurd h (Nat.not_lt_zero _))]
    simp
  | a :: L => by
    have ih := Ser.ins_R x L
    unfold Ser.insR
    by_cases ha : a.tick < x.tick
    · have e : Ser.place (a :: L) x.tick = Ser.place L x.tick + 1 := by unfold Ser.place; rw [List.takeWhile_cons, if_pos (decide_eq_true ha)]; rfl
      rw [if_pos ha, ← ih]
      unfold Ser.ins
      rw [e]
      have e2 : Ser.tk (a :: L) (Ser.place L x.tick + 1) = Ser.tk L (Ser.place L x.tick) := rfl
      rw [e2]
      by_cases h : Ser.place L x.tick < L.length ∧ Ser.tk L (Ser.place L x.tick) = x.tick
      · rw [if_pos h, if_pos ⟨by rw [List.length_cons]; omega, h.2⟩]; rfl
      · rw [if_neg h, if_neg (fun g => h ⟨by have := g.1; rw [List.length_cons] at this; omega, g.2⟩)]; rfl
    · have e : Ser.place (a :: L) x.tick = 0 := by unfold Ser.place; rw [List.takeWhile_cons, if_neg (by simpa using ha)]; rfl
      rw [if_neg ha]
      unfold Ser.ins
      rw [e]
      have e2 : Ser.tk (a :: L) 0 = a.tick := rfl
      rw [e2]
      by_cases h : a.tick = x.tick
      · rw [if_pos ⟨by simp, h⟩, if_pos h]; rfl
      · rw [if_neg (fun g => h g.2), if_neg h]; rfl
theorem Ser.insR_comm {x y : Samp} (h : x.tick ≠ y.tick) : ∀ L, Ser.insR y (Ser.insR x L) = Ser.insR x (Ser.insR y L)
  | [] => by
    show (if x.tick < y.tick then [x, y] else if x.tick = y.tick then [y] else [y, x]) = (if y.tick < x.tick then [y, x] else if y.tick = x.tick then [x] else [x, y])
    by_cases h1 : x.tick < y.tick
    · rw [if_pos h1, if_neg (by omega), if_neg (by omega)]
    · rw [if_neg h1, if_neg (by omega), if_pos (by omega)]
  | a :: L => by
    have ih := Ser.insR_comm h L
    have hx : ∀ M b, Ser.insR x (b :: M) = if b.tick < x.tick then b :: Ser.insR x M else if b.tick = x.tick then x :: M else x :: b :: M := fun _ _ => rfl
    have hy : ∀ M b, Ser.insR y (b :: M) = if b.tick < y.tick then b :: Ser.insR y M else if b.tick = y.tick then y :: M else y :: b :: M := fun _ _ => rfl
    by_cases a1 : a.tick < x.tick
    · rw [hx, if_pos a1, hy]
      by_cases b1 : a.tick < y.tick
      · rw [if_pos b1, hy, if_pos b1, hx, if_pos a1, ih]
      · rw [if_neg b1, hy, if_neg b1]
        by_cases b2 : a.tick = y.tick
        · rw [if_pos b2, if_pos b2, hx, if_pos (by omega)]
        · rw [if_neg b2, if_neg b2, hx, if_pos (by omega), hx, if_pos a1]
    · rw [hx, if_neg a1]
      by_cases a2 : a.tick = x.tick
      · rw [if_pos a2, hy, hy]
        by_cases b1 : a.tick < y.tick
        · rw [if_pos (by omega), if_pos b1, hx, if_neg a1, if_pos a2]
        · rw [if_neg (by omega), if_neg (by omega), if_neg b1, if_neg (by omega), hx, if_pos (by omega), hx, if_neg a1, if_pos a2]
      · rw [if_neg a2, hy (a :: L) x, hy]
        by_cases b1 : a.tick < y.tick
        · rw [if_pos (by omega), if_pos b1, hx, if_neg a1, if_neg a2]
        · by_cases b2 : a.tick = y.tick
          · rw [if_pos (by omega), if_neg b1, if_pos b2, hx, if_neg (by omega), if_neg (by omega)]
          · rw [if_neg b1, if_neg b2, hx]
            by_cases c1 : x.tick < y.tick
            · rw [if_pos c1, if_neg (by omega), if_neg (by omega)]
            · rw [if_neg c1, if_neg (by omega), if_pos (by omega), hx, if_neg a1, if_neg a2]

theorem Ser.sorted_tail {a : Samp} {L : List Samp} (h : Ser.Sorted (a :: L)) : Ser.Sorted L ∧ ∀ b ∈ L, a.tick < b.tick := by
  refine ⟨fun i j hij hj => h (i + 1) (j + 1) (by omega) (by rw [List.length_cons]; omega), ?_⟩
  exact Ser.tk_mem (P := fun t => a.tick < t) (fun k hk => h 0 (k + 1) (by omega) (by rw [List.length_cons]; omega))
theorem Ser.insR_low {y : Samp} : ∀ {M : List Samp}, (∀ b ∈ M, y.tick < b.tick) → Ser.insR y M = y :: M
  | [], _ => rfl
  | b :: M, h => by
    have := h b (by simp)
    unfold Ser.insR
    rw [if_neg (by omega), if_neg (by omega)]
def Ser.last (room : Nat) (M : List Samp) : List Samp := M.drop (M.length - room)
theorem Ser.last_cons {room : Nat} {N : List Samp} (a : Samp) (h : room ≤ N.length) : Ser.last room (a :: N) = Ser.last room N := by
  unfold Ser.last
  rw [List.length_cons, show N.length + 1 - room = (N.length - room) + 1 by omega]
  rfl
theorem Ser.last_all {room : Nat} {N : List Samp} (h : N.length ≤ room) : Ser.last room N = N := by
  unfold Ser.last
  rw [show N.length - room = 0 by omega]
  rfl
theorem Ser.last_cut {room : Nat} {N : List Samp} (h : N.length ≤ room + 1) : Ser.cutTo room N = Ser.last room N := by
  unfold Ser.cutTo
  split
  · unfold Ser.last; rw [show N.length - room = 1 by omega]
  · rw [Ser.last_all (by omega)]
theorem Ser.insR_len (y : Samp) : ∀ M, M.length ≤ (Ser.insR y M).length
  | [] => by simp
  | a :: M => by
    have := Ser.insR_len y M
    unfold Ser.insR
    repeat' split
    all_goals simp
    all_goals omega
theorem Ser.last_ins {room : Nat} (y : Samp) : ∀ {M : List Samp}, Ser.Sorted M → Ser.last room (Ser.insR y (Ser.last room M)) = Ser.last room (Ser.insR y M)
  | [], _ => by
    have e : Ser.last room [] = [] := Ser.last_all (Nat.zero_le _)
    rw [e]
  | a :: M, h => by
    obtain ⟨h1, h2⟩ := Ser.sorted_tail h
    by_cases hr : room ≤ M.length
    · rw [Ser.last_cons a hr, Ser.last_ins y h1]
      have hl := Ser.insR_len y M
      have e : Ser.insR y (a :: M) = if a.tick < y.tick then a :: Ser.insR y M else if a.tick = y.tick then y :: M else y :: a :: M := rfl
      rw [e]
      by_cases c1 : a.tick < y.tick
      · rw [if_pos c1, Ser.last_cons a (by omega)]
      · have hlow : Ser.insR y M = y :: M := Ser.insR_low (fun b hb => by have := h2 b hb; omega)
        rw [if_neg c1, hlow]
        by_cases c2 : a.tick = y.tick
        · rw [if_pos c2]
        · rw [if_neg c2, Ser.last_cons y hr, Ser.last_cons y (by rw [List.length_cons]; omega), Ser.last_cons a hr]
    · rw [Ser.last_all (N := a :: M) (by rw [List.length_cons]; omega)]

def Ser.stepA (L : List Samp) (x : Samp) : List Samp := if Ser.code x = 0 then Ser.insR x L else L
theorem Ser.fold_last {room : Nat} (hr : 1 ≤ room) : ∀ (l : List Samp) (M : List Samp), Ser.Sorted M → l.foldl (Ser.step room) (Ser.last room M) = Ser.last room (l.foldl Ser.stepA M)
  | [], M, _ => rfl
  | x :: l, M, hM => by
    rw [List.foldl_cons, List.foldl_cons]
    unfold Ser.step Ser.stepA
    by_cases hc : Ser.code x = 0
    · rw [if_pos hc, if_pos hc]
      have hl : (Ser.last room M).length ≤ room := by unfold Ser.last; rw [List.length_drop]; omega
      have e : Ser.put (Ser.last room M) room x = Ser.last room (Ser.insR x M) := by
        unfold Ser.put
        rw [Ser.last_cut (by have := Ser.ins_length (Ser.last room M) x; omega), Ser.ins_R, Ser.last_ins x hM]
      rw [e]
      exact Ser.fold_last hr l _ (by rw [← Ser.ins_R]; exact Ser.ins_sorted hM x)
    · rw [if_neg hc, if_neg hc]
      exact Ser.fold_last hr l M hM
theorem Ser.fold_perm {l m : List Samp} (h : l.Perm m) : (∀ x ∈ l, ∀ y ∈ l, x = y ∨ x.tick ≠ y.tick) → ∀ z, l.foldl Ser.stepA z = m.foldl Ser.stepA z := by
  induction h with
  | nil => intro _ _; rfl
  | cons x _ ih => intro hd z; exact ih (fun a ha b hb => hd a (List.mem_cons_of_mem _ ha) b (List.mem_cons_of_mem _ hb)) _
  | swap x y l =>
    intro hd z
    show l.foldl Ser.stepA (Ser.stepA (Ser.stepA z y) x) = l.foldl Ser.stepA (Ser.stepA (Ser.stepA z x) y)
    have e : Ser.stepA (Ser.stepA z y) x = Ser.stepA (Ser.stepA z x) y := by
      rcases hd x (by simp) y (by simp) with rfl | hne
      · rfl
      · unfold Ser.stepA
        by_cases h1 : Ser.code x = 0
        · by_cases h2 : Ser.code y = 0
          · simp only [h1, h2, if_true]; exact Ser.insR_comm (Ne.symm hne) z
          · simp only [h1, h2, if_true, if_false]
        · by_cases h2 : Ser.code y = 0
          · simp only [h1, h2, if_true, if_false]
          · simp only [h1, h2, if_false]
    rw [e]
  | trans h1 _ ih1 ih2 =>
    intro hd z
    rw [ih1 hd z]
    exact ih2 (fun a ha b hb => hd a (h1.mem_iff.2 ha) b (h1.mem_iff.2 hb)) z
theorem Ser.any_order {room : Nat} (hr : 1 ≤ room) {l m : List Samp} (h : l.Perm m) (hd : ∀ i j, i < j → j < l.length → (l[j]?.getD default).tick ≠ (l[i]?.getD default).tick) : Ser.of room l l.length = Ser.of room m m.length := by
  have hd2 : ∀ x ∈ l, ∀ y ∈ l, x = y ∨ x.tick ≠ y.tick := by
    intro x hx y hy
    obtain ⟨i, hi, rfl⟩ := List.mem_iff_getElem.1 hx
    obtain ⟨j, hj, rfl⟩ := List.mem_iff_getElem.1 hy
    by_cases e : i = j
    · subst e; exact .inl rfl
    · right
      by_cases c : i < j
      · have := hd i j c hj
        rw [List.getElem?_eq_getElem hi, List.getElem?_eq_getElem hj] at this
        exact fun e => this e.symm
      · have := hd j i (by omega) hi
        rw [List.getElem?_eq_getElem hi, List.getElem?_eq_getElem hj] at this
        exact this
  have e0 : ([] : List Samp) = Ser.last room [] := (Ser.last_all (Nat.zero_le _)).symm
  unfold Ser.of
  rw [List.take_length, List.take_length, e0, Ser.fold_last hr l [] Ser.nil_sorted, Ser.fold_last hr m [] Ser.nil_sorted, Ser.fold_perm h hd2]
theorem Ser.turned (l : List Samp) (k : Nat) : ((l.drop k).reverse ++ l.take k).Perm l := by
  have h1 : ((l.drop k).reverse ++ l.take k).Perm (l.drop k ++ l.take k) := (List.reverse_perm _).append_right _
  have h2 : (l.drop k ++ l.take k).Perm (l.take k ++ l.drop k) := List.perm_append_comm
  have h3 := h1.trans h2
  rwa [List.take_append_drop] at h3
end Go.Proofs.Ytapgcbjlgekpeaa
