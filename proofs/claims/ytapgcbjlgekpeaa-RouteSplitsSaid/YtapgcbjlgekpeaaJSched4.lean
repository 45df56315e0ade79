/- Layer 27: a run: the program's. -/
import Derived.Test.YtapgcbjlgekpeaaJSched3
import Derived.Test.YtapgcbjlgekpeaaJBase
namespace Go.Proofs.Ytapgcbjlgekpeaa
open Go.ChangeShapes Go.WideShapes Go.ChangeAt Go.RowKit

def intRow (L : List Int) : Array Value := (L.map fun n : Int => Value.int .i64 n).toArray
theorem intRow_get (L : List Int) (i : Nat) (h : i < L.length) : (intRow L)[i]? = some (.int .i64 (L[i]?.getD 0)) := by
  unfold intRow
  rw [List.getElem?_toArray, List.getElem?_map, List.getElem?_eq_getElem h]
  rfl
theorem intRow_set (L : List Int) (i : Nat) (v : Int) : (intRow L).setIfInBounds i (.int .i64 v) = intRow (L.set i v) := by
  unfold intRow
  rw [List.map_set]
  apply Array.ext'
  simp
theorem made_ints (n : Nat) : madeCells (Value.cells (.int .i64 0)) (n * 1) = intRow (List.replicate n 0) := by
  unfold intRow
  apply Array.ext'
  simp [madeCells, Value.cells, Nat.mod_one]
  rw [List.map_const', List.length_range]
theorem wpList_make_ints {P : Program} {ops : Array Oper} {rest : List Oper} {o : Oper} {a : Act} {Q : Exit → Act → World → Prop} {w : World}
    (hg : o.guard = none) (l c : Operand) (t : TypeId) (hop : o.op = Op.makeSlice t l c) (e : TypeId) (ht : P.underlying t = some (.slice e)) (hi : (P.info? e).map (fun i => (i.zero, i.size, i.bytes)) = some (some (.int .i64 0), 1, 8))
    (n : Nat) (hl : a.eval l = .int .i64 n) (hc : a.eval c = .int .i64 n) (hn : n ≤ 100000)
    (hK : wpList P ops Q rest (a.put o.dst (.slice (some ⟨w.heap.size, 0, none⟩) n n)) (w.alloc (.cells (intRow (List.replicate n 0)) e))) : wpList P ops Q (o :: rest) a w := by
  obtain ⟨i, hi1, hi2, hi3, hi4⟩ := info_parts hi
  refine wpList_plain hg fun K hK' => ?_
  have hr := run_make (P := P) w t e i (.int .i64 0) ht hi1 hi2 .i64 .i64 n n (by omega) (Int.le_refl _) (by rw [hi4]; omega) (by omega)
  simp only [Int.toNat_natCast, hi3, made_ints] at hr
  unfold Oper.wp
  simp [execOp, hop, hl, hc, hr, Result.andThen]
  exact hK' _ _ hK

structure TS where
  T : Nat → Toy
  r : Nat
  st : List Int
  stop : Bool
def Tk.less (T : Nat → Toy) (p : Nat) : Nat → Toy := fun i => if i = p then ⟨(T i).left - 1, (T i).gap, (T i).phase⟩ else T i
def Tk.step (n : Nat) (u0 : Int) (pick : Int) (s : TS) : TS :=
  if s.stop = true then s
  else if Tk.next n s.T (u0 + s.r) pick < 0 then ⟨s.T, s.r, s.st, true⟩
  else ⟨Tk.less s.T (Tk.next n s.T (u0 + s.r) pick).toNat, s.r + 1, s.st.set (Tk.next n s.T (u0 + s.r) pick).toNat (s.st[(Tk.next n s.T (u0 + s.r) pick).toNat]?.getD 0 + 1), false⟩
def Tk.at (n : Nat) (u0 : Int) (T : Nat → Toy) (P : List Int) : Nat → TS
  | 0 => ⟨T, 0, List.replicate n 0, false⟩
  | k + 1 => Tk.step n u0 (P[k]?.getD 0) (Tk.at n u0 T P k)
def Tk.stuck (n : Nat) (T : Nat → Toy) (used : Int) : Bool := decide (Tk.next n T used 0 < 0) && decide (0 < Tk.open' T n)
theorem Tk.stays {n : Nat} {u0 : Int} {T : Nat → Toy} {P : List Int} {k : Nat} (h : (Tk.at n u0 T P k).stop = true) : ∀ d, Tk.at n u0 T P (k + d) = Tk.at n u0 T P k
  | 0 => rfl
  | d + 1 => by
    have ih := Tk.stays h d
    show Tk.step n u0 _ (Tk.at n u0 T P (k + d)) = _
    rw [ih]
    unfold Tk.step
    rw [if_pos h]
def Tk.Ok (n : Nat) (T0 : Nat → Toy) (k : Nat) (s : TS) : Prop :=
  s.r ≤ k ∧ s.st.length = n ∧ (∀ i, i < n → (s.T i).In ∧ 0 ≤ (s.T i).phase ∧ (s.T i).phase ≤ 1000 ∧ (s.T i).left ≤ (T0 i).left) ∧ (∀ i : Nat, 0 ≤ s.st[i]?.getD 0 ∧ s.st[i]?.getD 0 ≤ k)
theorem Tk.ok_step {n : Nat} {u0 p : Int} {T0 : Nat → Toy} {k : Nat} {s : TS} (h : Tk.Ok n T0 k s) : Tk.Ok n T0 (k + 1) (Tk.step n u0 p s) := by
  obtain ⟨h1, h2, h3, h4⟩ := h
  unfold Tk.step
  split
  · exact ⟨by omega, h2, h3, fun i => ⟨(h4 i).1, by have := (h4 i).2; omega⟩⟩
  · split
    · exact ⟨by show s.r ≤ k + 1; omega, h2, h3, fun i => ⟨(h4 i).1, by have := (h4 i).2; show s.st[i]?.getD 0 ≤ _; omega⟩⟩
    · rename_i hs hn
      obtain ⟨x, ex, hx, hr⟩ := Tk.next_in hn
      rw [ex, Int.toNat_natCast]
      refine ⟨by show s.r + 1 ≤ k + 1; omega, by show (s.st.set _ _).length = n; rw [List.length_set]; exact h2, fun i hi => ?_, fun i => ?_⟩
      · have g := h3 i hi
        show (Tk.less s.T x i).In ∧ 0 ≤ (Tk.less s.T x i).phase ∧ (Tk.less s.T x i).phase ≤ 1000 ∧ (Tk.less s.T x i).left ≤ (T0 i).left
        unfold Tk.less
        split
        · rename_i e
          subst e
          have hl : ¬ (s.T i).left < 1 := fun h => by unfold Toy.ready at hr; rw [if_pos h] at hr; cases hr
          refine ⟨⟨?_, g.1.2.1, g.1.2.2⟩, g.2.1, g.2.2.1, ?_⟩
          · have h5 := g.1.1; unfold I64 at *; show _ ≤ (s.T i).left - 1 ∧ (s.T i).left - 1 ≤ _; omega
          · have h5 := g.2.2.2; show (s.T i).left - 1 ≤ _; omega
        · exact g
      · show 0 ≤ (s.st.set x (s.st[x]?.getD 0 + 1))[i]?.getD 0 ∧ (s.st.set x (s.st[x]?.getD 0 + 1))[i]?.getD 0 ≤ ((k + 1 : Nat) : Int)
        have g := h4 i
        have g2 := h4 x
        by_cases e : i = x
        · subst e
          rw [List.getElem?_set_self (by omega)]
          simp only [Option.getD_some]
          omega
        · rw [List.getElem?_set_ne (fun h => e h.symm)]
          omega
theorem Tk.good {n : Nat} {u0 : Int} {T : Nat → Toy} (hT : ∀ i, i < n → (T i).In ∧ 0 ≤ (T i).phase ∧ (T i).phase ≤ 1000) (P : List Int) : ∀ k, Tk.Ok n T k (Tk.at n u0 T P k)
  | 0 => ⟨Nat.le_refl _, by simp [Tk.at], fun i hi => ⟨(hT i hi).1, (hT i hi).2.1, (hT i hi).2.2, Int.le_refl _⟩, fun i => by
      show 0 ≤ (List.replicate n (0 : Int))[i]?.getD 0 ∧ (List.replicate n (0 : Int))[i]?.getD 0 ≤ 0
      rw [List.getElem?_replicate]
      split <;> simp⟩
  | k + 1 => Tk.ok_step (Tk.good hT P k)

def Tk.of (n : Nat) (bs : Nat → Option Nat) (c : Nat) : Nat → Prop := fun k => k = c ∨ ∃ i, i < n ∧ bs i = some k
section
variable {w wr wr' : World} {q : Option Addr} {n : Nat} {bs : Nat → Option Nat} {T : Nat → Toy} {c : Nat} {used : Int} {L : List Int} {r : Int}
end
end Go.Proofs.Ytapgcbjlgekpeaa
