/- Samples as data; what a window tells of them (layer 9). -/
import Derived.Test.YtapgcbjlgekpeaaJBase
import Derived.Test.YtapgcbjlgekpeaaJWide3
namespace Go.Proofs.Ytapgcbjlgekpeaa
open Go.ChangeShapes Go.WideShapes Go.ChangeAt Go.RowKit

/-- A sample: tick, value. -/
structure Samp where
  tick : Int
  val : Int
deriving Inhabited, DecidableEq

def Samp.get (a : Samp) : Nat → Int
  | 0 => a.tick
  | _ => a.val
def Samp.In (a : Samp) : Prop := I64 a.tick ∧ I64 a.val

/-- A slice of samples. -/
def Samps (w : World) (p : Option Addr) (l : List Samp) : Prop := Sl w p l.length 2 (fun j => .int .i64 ((l[j / 2]?.getD default).get (j % 2)))

theorem Samps.below {w w' : World} {p : Option Addr} {l : List Samp} (h : Samps w p l) (hb : Below w.heap.size w w') : Samps w' p l := Sl.below h hb
theorem Samps.cells {w : World} {p : Option Addr} {l : List Samp} (h : Samps w p l) (k : Nat) (hk : k < l.length) :
    ∃ b off, p = some ⟨b, off, none⟩ ∧ b < w.heap.size ∧ w.cell? ⟨b, off + k * 2, none⟩ = some (.int .i64 (l[k]?.getD default).tick) ∧ w.cell? ⟨b, off + k * 2 + 1, none⟩ = some (.int .i64 (l[k]?.getD default).val) := by
  obtain ⟨b, off, hp, hb, hc⟩ := Sl.pos h (by omega)
  have key : ∀ i, i < 2 → w.cell? ⟨b, off + k * 2 + i, none⟩ = some (.int .i64 ((l[k]?.getD default).get i)) := by
    intro i hi
    have := hc (k * 2 + i) (by omega)
    rw [← Nat.add_assoc, show (k * 2 + i) / 2 = k by omega, show (k * 2 + i) % 2 = i by omega] at this
    exact this
  exact ⟨b, off, hp, hb, key 0 (by omega), key 1 (by omega)⟩

def sampVals : List Samp → List Value
  | [] => []
  | a :: l => .int .i64 a.tick :: .int .i64 a.val :: sampVals l
theorem sampVals_append : ∀ l m : List Samp, sampVals (l ++ m) = sampVals l ++ sampVals m
  | [], m => rfl
  | a :: l, m => by simp [sampVals, sampVals_append l m]
theorem sampVals_len : ∀ l : List Samp, (sampVals l).length = l.length * 2
  | [] => rfl
  | a :: l => by simp [sampVals, sampVals_len l]; omega
theorem sampVals_get : ∀ (l : List Samp) (j : Nat), j < l.length * 2 → (sampVals l)[j]? = some (.int .i64 ((l[j / 2]?.getD default).get (j % 2)))
  | [], j, h => by simp at h
  | a :: l, j, h => by
    match j, h with
    | 0, _ => rfl
    | 1, _ => rfl
    | j + 2, h =>
      have ih := sampVals_get l j (by simp at h; omega)
      rw [show (j + 2) / 2 = j / 2 + 1 by omega, show (j + 2) % 2 = j % 2 by omega]
      simpa [sampVals] using ih
theorem sampVals_one : ∀ (l : List Samp), ∀ u ∈ sampVals l, u.oneCell' = true
  | [], u, h => by simp [sampVals] at h
  | a :: l, u, h => by
    simp only [sampVals, List.mem_cons] at h
    rcases h with rfl | rfl | h
    · rfl
    · rfl
    · exact sampVals_one l u h
theorem samps_of_owns {w : World} {B : Nat} {v : Value} {l : List Samp} (h : Owns w B 2 v l.length (sampVals l)) : ∃ p cap, v = .slice p l.length cap ∧ l.length ≤ cap ∧ Samps w p l := by
  obtain ⟨p, cap, hv, hc, _, hs, _⟩ := h.sl
  refine ⟨p, cap, hv, hc, ?_⟩
  rcases hs with hs | ⟨b, off, hp, hb, hcell⟩
  · exact .inl hs
  · refine .inr ⟨b, off, hp, hb, fun j hj => ?_⟩
    rw [hcell j hj]
    show some ((sampVals l)[j]?.getD undef) = some (.int .i64 ((l[j / 2]?.getD default).get (j % 2)))
    rw [sampVals_get l j hj]
    rfl
/-- What is appended of samples that lie in memory. -/
theorem Samps.news {w : World} {p : Option Addr} {l : List Samp} (h : Samps w p l) : ∀ ad, p = some ad → ∀ j u, (sampVals l)[j]? = some u → w.cell? (ad.add j) = some u := by
  intro ad hp j u hu
  have hj : j < l.length * 2 := by
    have := (List.getElem?_eq_some_iff.1 hu).1
    rwa [sampVals_len] at this
  rcases h with h | ⟨b, off, h, _, hc⟩
  · omega
  · rw [hp] at h
    cases h
    have hadd : (⟨b, off, none⟩ : Addr).add j = ⟨b, off + j, none⟩ := by unfold Addr.add; split <;> simp_all
    rw [hadd, hc j hj, ← sampVals_get l j hj]
    exact hu
theorem samps_alloc (w : World) (l : List Samp) (T : TypeId) (cs : Array Value) (h : cs = (sampVals l).toArray) : Samps (w.alloc (.cells cs T)) (some ⟨w.heap.size, 0, none⟩) l := by
  subst h
  refine .inr ⟨w.heap.size, 0, rfl, by simp, fun j hj => ?_⟩
  rw [World.cell?_alloc_at _ _ _ _ (by simp), Nat.zero_add]
  simp [sampVals_get l j hj]

theorem sampInfo : (Try.prog.info? 23).map (fun i => (i.zero, i.size, i.bytes)) = some (some (.agg #[.int .i64 0, .int .i64 0]), 2, 16) := by kernel_rfl

def Samp.row (a : Samp) : List Int := [a.tick, a.val]
/-- A slice that came in, as samples. -/
theorem samps_of_rows {w : World} {p : Option Addr} (l : List (List Int)) (h : Go.Proofs.Ytapgcbjlgekpeaa.Rows .i64 2 w p l) (hr : ∀ r ∈ l, r.length = 2 ∧ ∀ a ∈ r, (Lit.int .i64 a).wf = true) : ∃ m : List Samp, l = m.map Samp.row ∧ Samps w p m ∧ ∀ a ∈ m, a.In := by
  have key : ∀ r ∈ l, ∃ a : Samp, r = a.row ∧ a.In := by
    intro r hr'
    obtain ⟨h5, hw⟩ := hr r hr'
    match r, h5 with
    | [a, b], _ => exact ⟨⟨a, b⟩, rfl, I64.of_wf (hw a (by simp)), I64.of_wf (hw b (by simp))⟩
  have all : ∃ m : List Samp, l = m.map Samp.row ∧ ∀ a ∈ m, a.In := by
    clear h hr
    induction l with
    | nil => exact ⟨[], rfl, by simp⟩
    | cons r l ih =>
      obtain ⟨m, hm, hi⟩ := ih (fun r hr => key r (by simp [hr]))
      obtain ⟨a, ha, hai⟩ := key r (by simp)
      exact ⟨a :: m, by rw [ha, hm]; rfl, by intro b hb; rcases List.mem_cons.1 hb with rfl | hb; exact hai; exact hi b hb⟩
  obtain ⟨m, rfl, hi⟩ := all
  refine ⟨m, rfl, ?_, hi⟩
  unfold Go.Proofs.Ytapgcbjlgekpeaa.Rows at h
  rw [List.length_map] at h
  rcases h with h | ⟨b, off, hp, hb, hc⟩
  · exact .inl h
  · refine .inr ⟨b, off, hp, hb, fun j hj => ?_⟩
    rw [hc j hj]
    have hq : j / 2 < m.length := by omega
    have hm : j % 2 < 2 := Nat.mod_lt _ (by omega)
    simp only [List.getElem?_map, List.getElem?_eq_getElem hq, Option.map_some, Option.getD_some]
    generalize j % 2 = i at hm
    generalize m[j / 2] = a
    match i, hm with
    | 0, _ => rfl
    | 1, _ => rfl

/-- A call that hands back a slice of its own, and turns nothing that was there. -/
def RetOwns (w : World) (sz n : Nat) (xs : List Value) (e : Ending) (w' : World) : Prop := ∃ v, e = .returned v ∧ Owns w' w.heap.size sz v n xs ∧ Below w.heap.size w w'

/-- Those in a window. -/
def Samp.cut (lo hi : Int) (l : List Samp) : List Samp := l.filter fun a => decide (lo ≤ a.tick ∧ a.tick ≤ hi)
theorem Samp.cut_next (lo hi : Int) (l : List Samp) (k : Nat) (h : k < l.length) : Samp.cut lo hi (l.take (k + 1)) = Samp.cut lo hi (l.take k) ++ (if lo ≤ (l[k]?.getD default).tick ∧ (l[k]?.getD default).tick ≤ hi then [l[k]?.getD default] else []) := by
  unfold Samp.cut
  rw [List.take_succ_eq_append_getElem h, List.filter_append, List.getElem?_eq_getElem h]
  congr 1
  simp only [Option.getD_some, List.filter_cons, List.filter_nil]
  split <;> split <;> simp_all
theorem Samp.cut_le (lo hi : Int) (l : List Samp) (k : Nat) : (Samp.cut lo hi (l.take k)).length ≤ k := by
  have := List.length_filter_le (fun a : Samp => decide (lo ≤ a.tick ∧ a.tick ≤ hi)) (l.take k)
  have h2 : (l.take k).length ≤ k := List.length_take_le _ _
  unfold Samp.cut
  omega
/-- Their values, none below zero. -/
def Samp.vals (l : List Samp) : List Int := l.map fun a => max a.val 0
theorem Samp.vals_next (l : List Samp) (k : Nat) (h : k < l.length) : Samp.vals (l.take (k + 1)) = Samp.vals (l.take k) ++ [max (l[k]?.getD default).val 0] := by
  unfold Samp.vals
  rw [List.take_succ_eq_append_getElem h, List.map_append, List.getElem?_eq_getElem h]
  rfl

end Go.Proofs.Ytapgcbjlgekpeaa
