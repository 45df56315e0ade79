/- Decisions as values; a slice that came in, as decisions. -/
import Derived.Test.YtildjnibdappnaaAdv
import Derived.Test.YtildjnibdappnaaStructs
namespace Go.Proofs.Ytildjnibdappnaa
open Go.ChangeShapes Go.WideShapes Go.ChangeAt Go.RowKit

theorem advInfo : (Try.prog.info? 24).map (fun i => (i.zero, i.size, i.bytes)) = some (some (.agg #[.int .i64 0, .int .i64 0, .int .i64 0, .int .i64 0, .int .i64 0]), 5, 40) := by kernel_rfl

/-- Decisions as values. -/
def advVals : List Adv → List Value
  | [] => []
  | a :: l => .int .i64 a.tick :: .int .i64 a.load :: .int .i64 a.want :: .int .i64 a.repl :: .int .i64 a.why :: advVals l
theorem advVals_append : ∀ l m : List Adv, advVals (l ++ m) = advVals l ++ advVals m
  | [], m => rfl
  | a :: l, m => by simp [advVals, advVals_append l m]
theorem advVals_len : ∀ l : List Adv, (advVals l).length = l.length * 5
  | [] => rfl
  | a :: l => by simp [advVals, advVals_len l]; omega
theorem advVals_get : ∀ (l : List Adv) (j : Nat), j < l.length * 5 → (advVals l)[j]? = some (.int .i64 ((l[j / 5]?.getD default).get (j % 5)))
  | [], j, h => by simp at h
  | a :: l, j, h => by
    match j, h with
    | 0, _ => rfl
    | 1, _ => rfl
    | 2, _ => rfl
    | 3, _ => rfl
    | 4, _ => rfl
    | j + 5, h =>
      have ih := advVals_get l j (by simp at h; omega)
      rw [show (j + 5) / 5 = j / 5 + 1 by omega, show (j + 5) % 5 = j % 5 by omega]
      simpa [advVals] using ih
theorem advs_of_owns {w : World} {B : Nat} {v : Value} {l : List Adv} (h : Owns w B 5 v l.length (advVals l)) : ∃ p cap, v = .slice p l.length cap ∧ l.length ≤ cap ∧ Advs w p l := by
  obtain ⟨p, cap, hv, hc, _, hs, _⟩ := h.sl
  refine ⟨p, cap, hv, hc, ?_⟩
  rcases hs with hs | ⟨b, off, hp, hb, hcell⟩
  · exact .inl hs
  · refine .inr ⟨b, off, hp, hb, fun j hj => ?_⟩
    rw [hcell j hj]
    show some ((advVals l)[j]?.getD undef) = some (.int .i64 ((l[j / 5]?.getD default).get (j % 5)))
    rw [advVals_get l j hj]
    rfl

theorem adv_of_list (l : List Int) (n : l.length = 5) (h : ∀ a ∈ l, (Lit.int .i64 a).wf = true) : ∃ a : Adv, l = [a.tick, a.load, a.want, a.repl, a.why] ∧ a.In := by
  match l, n with
  | [a, b, c, d, e], _ => exact ⟨⟨a, b, c, d, e⟩, rfl, I64.of_wf (h a (by simp)), I64.of_wf (h b (by simp)), I64.of_wf (h c (by simp)), I64.of_wf (h d (by simp)), I64.of_wf (h e (by simp))⟩

def Adv.row (a : Adv) : List Int := [a.tick, a.load, a.want, a.repl, a.why]
/-- A slice that came in, as decisions. -/
theorem advs_of_rows {w : World} {p : Option Addr} (l : List (List Int)) (h : Go.Proofs.Ytildjnibdappnaa.Rows .i64 5 w p l) (hr : ∀ r ∈ l, r.length = 5 ∧ ∀ a ∈ r, (Lit.int .i64 a).wf = true) : ∃ m : List Adv, l = m.map Adv.row ∧ Advs w p m ∧ ∀ a ∈ m, a.In := by
  have key : ∀ r ∈ l, ∃ a : Adv, r = a.row ∧ a.In := by
    intro r hr'
    obtain ⟨h5, hw⟩ := hr r hr'
    match r, h5 with
    | [a, b, c, d, e], _ => exact ⟨⟨a, b, c, d, e⟩, rfl, I64.of_wf (hw a (by simp)), I64.of_wf (hw b (by simp)), I64.of_wf (hw c (by simp)), I64.of_wf (hw d (by simp)), I64.of_wf (hw e (by simp))⟩
  have all : ∃ m : List Adv, l = m.map Adv.row ∧ ∀ a ∈ m, a.In := by
    clear h hr
    induction l with
    | nil => exact ⟨[], rfl, by simp⟩
    | cons r l ih =>
      obtain ⟨m, hm, hi⟩ := ih (fun r hr => key r (by simp [hr]))
      obtain ⟨a, ha, hai⟩ := key r (by simp)
      exact ⟨a :: m, by rw [ha, hm]; rfl, by intro b hb; rcases List.mem_cons.1 hb with rfl | hb; exact hai; exact hi b hb⟩
  obtain ⟨m, rfl, hi⟩ := all
  refine ⟨m, rfl, ?_, hi⟩
  unfold Go.Proofs.Ytildjnibdappnaa.Rows at h
  rw [List.length_map] at h
  rcases h with h | ⟨b, off, hp, hb, hc⟩
  · exact .inl h
  · refine .inr ⟨b, off, hp, hb, fun j hj => ?_⟩
    rw [hc j hj]
    have hq : j / 5 < m.length := by omega
    have hm : j % 5 < 5 := Nat.mod_lt _ (by omega)
    simp only [List.getElem?_map, List.getElem?_eq_getElem hq, Option.map_some, Option.getD_some]
    generalize j % 5 = i at hm
    generalize m[j / 5] = a
    match i, hm with
    | 0, _ => rfl
    | 1, _ => rfl
    | 2, _ => rfl
    | 3, _ => rfl
    | 4, _ => rfl
end Go.Proofs.Ytildjnibdappnaa
