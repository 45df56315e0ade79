/- Layer 5: keys in parts: a row of slices, each with a block of its own. -/
import Derived.Test.YtapgcbjlgekpeaaJKeys
import Derived.Test.YtapgcbjlgekpeaaJRingA
import Derived.Test.YtapgcbjlgekpeaaJSched4
import Derived.Test.YtapgcbjlgekpeaaJBase
import Derived.Deep.MidRow
import Derived.Deep.CutBlock
namespace Go.Proofs.Ytapgcbjlgekpeaa
open Go.ChangeShapes Go.WideShapes Go.ChangeAt Go.RowKit

def rowOf (n : Nat) (v : Nat → Value) : Array Value := ((List.range n).map v).toArray
theorem rowOf_get (n : Nat) (v : Nat → Value) (j : Nat) (h : j < n) : (rowOf n v)[j]? = some (v j) := by
  unfold rowOf
  rw [List.getElem?_toArray, List.getElem?_map, List.getElem?_range h]
  rfl
def upd {α : Type} (v : Nat → α) (i : Nat) (u : α) : Nat → α := fun j => if j = i then u else v j
theorem rowOf_set (n : Nat) (v : Nat → Value) (i : Nat) (u : Value) : (rowOf n v).setIfInBounds i u = rowOf n (upd v i u) := by
  unfold rowOf
  apply Array.ext'
  simp only [Array.toList_setIfInBounds]
  apply List.ext_getElem
  · simp
  · intro j h1 h2
    simp only [List.length_map, List.length_range] at h2
    rw [List.getElem_set]
    simp only [List.getElem_map, List.getElem_range, upd]
    by_cases e : i = j
    · rw [if_pos e, if_pos e.symm]
    · rw [if_neg e, if_neg (fun h => e h.symm)]
theorem made_rows (n : Nat) : madeCells (Value.cells (.slice none 0 0)) (n * 1) = rowOf n (fun _ => .slice none 0 0) := by
  unfold rowOf
  apply Array.ext'
  simp [madeCells, Value.cells, Nat.mod_one]
theorem wpList_make_rows {P : Program} {ops : Array Oper} {rest : List Oper} {o : Oper} {a : Act} {Q : Exit → Act → World → Prop} {w : World}
    (hg : o.guard = none) (l c : Operand) (t : TypeId) (hop : o.op = Op.makeSlice t l c) (e : TypeId) (ht : P.underlying t = some (.slice e)) (hi : (P.info? e).map (fun i => (i.zero, i.size, i.bytes)) = some (some (.slice none 0 0), 1, 24))
    (n : Nat) (hl : a.eval l = .int .i64 n) (hc : a.eval c = .int .i64 n) (hn : n ≤ 100000)
    (hK : wpList P ops Q rest (a.put o.dst (.slice (some ⟨w.heap.size, 0, none⟩) n n)) (w.alloc (.cells (rowOf n fun _ => .slice none 0 0) e))) : wpList P ops Q (o :: rest) a w := by
  obtain ⟨i, hi1, hi2, hi3, hi4⟩ := info_parts hi
  refine wpList_plain hg fun K hK' => ?_
  have hr := run_make (P := P) w t e i (.slice none 0 0) ht hi1 hi2 .i64 .i64 n n (by omega) (Int.le_refl _) (by rw [hi4]; omega) (by omega)
  simp only [Int.toNat_natCast, hi3, made_rows] at hr
  unfold Oper.wp
  simp [execOp, hop, hl, hc, hr, Result.andThen]
  exact hK' _ _ hK

structure Parts (w : World) (B P n : Nat) (v : Nat → Value) (xs : Nat → List Ky) : Prop where
  low : B ≤ P
  row : w.heap[P]? = some (.cells (rowOf n v) 53 (0, 0))
  own : ∀ j, j < n → Owns w B 2 (v j) (xs j).length (kyVals (xs j))
  apP : ∀ j, j < n → (v j).ownBlock ≠ some P
  apX : ∀ i j, i < n → j < n → i ≠ j → ∀ b, (v i).ownBlock = some b → (v j).ownBlock ≠ some b
/-- The same, while the part i was appended to, and is not yet stored. -/
structure PartsU (w : World) (B P n : Nat) (v : Nat → Value) (xs : Nat → List Ky) (i : Nat) (u : Value) (ys : List Ky) : Prop where
  low : B ≤ P
  row : w.heap[P]? = some (.cells (rowOf n v) 53 (0, 0))
  own : ∀ j, j < n → j ≠ i → Owns w B 2 (v j) (xs j).length (kyVals (xs j))
  ownU : Owns w B 2 u ys.length (kyVals ys)
  apP : ∀ j, j < n → (v j).ownBlock ≠ some P
  apU : u.ownBlock ≠ some P
  apX : ∀ i j, i < n → j < n → i ≠ j → ∀ b, (v i).ownBlock = some b → (v j).ownBlock ≠ some b
  apV : ∀ j, j < n → j ≠ i → ∀ b, u.ownBlock = some b → (v j).ownBlock ≠ some b
section
variable {w w' : World} {B P n i : Nat} {v : Nat → Value} {xs : Nat → List Ky} {u : Value} {ys : List Ky}
theorem Parts.below (h : Parts w B P n v xs) (hb : Below w.heap.size w w') : Parts w' B P n v xs :=
  ⟨h.low, (hb.block _ (lt_of_heap h.row)).trans h.row, fun j hj => (h.own j hj).below hb, h.apP, h.apX⟩
theorem PartsU.below (h : PartsU w B P n v xs i u ys) (hb : Below w.heap.size w w') : PartsU w' B P n v xs i u ys :=
  ⟨h.low, (hb.block _ (lt_of_heap h.row)).trans h.row, fun j hj e => (h.own j hj e).below hb, h.ownU.below hb, h.apP, h.apU, h.apX, h.apV⟩
theorem stab_parts : Stab (fun w' => Parts w' B P n v xs) := fun _ _ h hb => h.below hb
theorem stab_partsU : Stab (fun w' => PartsU w' B P n v xs i u ys) := fun _ _ h hb => h.below hb
theorem Parts.cell (h : Parts w B P n v xs) (j : Nat) (hj : j < n) : w.cell? ⟨P, j, none⟩ = some (v j) := by rw [cell_of_row _ _ _ _ _ _ h.row, rowOf_get n v j hj]
theorem PartsU.cell (h : PartsU w B P n v xs i u ys) (j : Nat) (hj : j < n) : w.cell? ⟨P, j, none⟩ = some (v j) := by rw [cell_of_row _ _ _ _ _ _ h.row, rowOf_get n v j hj]
theorem Parts.start {w0 : World} {T : TypeId} (hT : T = 53) (hB : B ≤ w0.heap.size) : Parts (w0.alloc (.cells (rowOf n fun _ => .slice none 0 0) T)) B w0.heap.size n (fun _ => .slice none 0 0) (fun _ => []) := by
  subst hT
  exact ⟨hB, heap_alloc_at _ _ _ rfl, fun j _ => owns_nil _ _ _, fun j _ e => by simp [Value.ownBlock] at e, fun i j _ _ _ b e => by simp [Value.ownBlock] at e⟩
theorem Parts.grow (h : Parts w B P n v xs) (hi : i < n) (ho : Owns w' B 2 u ys.length (kyVals ys)) (hg : w.grownBy w' (v i).ownBlock) (hu : u.ownBlock = (v i).ownBlock ∨ ∀ k, u.ownBlock = some k → w.heap.size ≤ k) : PartsU w' B P n v xs i u ys := by
  refine ⟨h.low, (hg.block P (lt_of_heap h.row) (fun e => h.apP i hi e.symm)).trans h.row, fun j hj e => (h.own j hj).kept hg ?_, ho, h.apP, ?_, h.apX, fun j hj e b hb => ?_⟩
  · by_cases hn : (v j).ownBlock = none
    · exact .inl hn
    · obtain ⟨b, hb⟩ := Option.ne_none_iff_exists'.1 hn
      exact .inr fun e2 => h.apX i j hi hj (fun e3 => e e3.symm) b (by rw [← e2]; exact hb) hb
  · rcases hu with hu | hu
    · rw [hu]; exact h.apP i hi
    · intro e; have := hu _ e; have := lt_of_heap h.row; omega
  · rcases hu with hu | hu
    · rw [hu] at hb; exact h.apX i j hi hj (fun e3 => e e3.symm) b hb
    · intro e2
      have := hu _ hb
      have := ((h.own j hj).lt b e2).2
      omega
theorem PartsU.set (h : PartsU w B P n v xs i u ys) : Parts (w.setCell ⟨P, i, none⟩ u) B P n (upd v i u) (upd xs i ys) := by
  refine ⟨h.low, by rw [heap_setCell_same _ _ _ _ _ _ h.row, rowOf_set], fun j hj => ?_, fun j hj => ?_, fun j k hj hk e b hb => ?_⟩
  · unfold upd
    by_cases e : j = i
    · rw [if_pos e, if_pos e]; exact h.ownU.setOther _ h.apU
    · rw [if_neg e, if_neg e]; exact (h.own j hj e).setOther _ (h.apP j hj)
  · unfold upd
    by_cases e : j = i
    · rw [if_pos e]; exact h.apU
    · rw [if_neg e]; exact h.apP j hj
  · unfold upd at hb ⊢
    by_cases e1 : j = i
    · rw [if_pos e1] at hb
      rw [if_neg (fun e2 => e (e1.trans e2.symm))]
      exact h.apV k hk (fun e2 => e (e1.trans e2.symm)) b hb
    · rw [if_neg e1] at hb
      by_cases e2 : k = i
      · rw [if_pos e2]
        intro e3
        exact h.apV j hj e1 b e3 hb
      · rw [if_neg e2]
        exact h.apX j k hj hk e b hb
end
theorem Ky.part_upd (n : Int) (l : List Ky) (k i : Nat) (h : k < l.length) (ho : Route.of (l[k]?.getD default).hi (l[k]?.getD default).lo n = (i : Int)) :
    (fun j : Nat => Ky.part n j (l.take (k + 1))) = upd (fun j : Nat => Ky.part n j (l.take k)) i (Ky.part n i (l.take k) ++ [l[k]?.getD default]) := by
  funext j
  show Ky.part n j (l.take (k + 1)) = _
  rw [Ky.part_next n j l k h]
  unfold upd
  by_cases e : j = i
  · subst e
    rw [if_pos rfl, if_pos ho]
  · rw [if_neg e, if_neg (by omega), List.append_nil]
theorem slKyInfo : (Try.prog.info? 53).map (fun i => (i.zero, i.size, i.bytes)) = some (some (.slice none 0 0), 1, 24) := by kernel_rfl
def SplitOf (w : World) (m : Nat) (n : Int) (L : List Ky) (e : Ending) (w' : World) : Prop :=
  ∃ P v, e = .returned (.slice (some ⟨P, 0, none⟩) m m) ∧ Parts w' w.heap.size P m v (fun j => Ky.part n j L) ∧ Below w.heap.size w w'

set_option maxHeartbeats 2000000 in
set_option maxRecDepth 100000 in
theorem route_split (p : Option Addr) (N c : Nat) (L : List Ky) (hn : L.length = N) (hIn : ∀ a ∈ L, a.In) (m : Nat) (hb : 0 ≤ Route.bits m) (hm : m ≤ 64) (hN : N ≤ 100000) (w : World) (hs : Kys w p L) :
    Calls Try.prog 26 #[.slice p N c, .int .i64 m] w (SplitOf w m m L) := by
  have hI : I64 (m : Int) := by unfold I64; omega
  have R := route_right m hI
  rw [decide_eq_true hb] at R
  have PR := Lib.hid R
  have HS := Lib.hid hs
  have HIN := Lib.hid hIn
  have HN := Lib.hid hn
  have HO : Hid (∀ (hi lo : Nat), hi < 18446744073709551616 → lo < 18446744073709551616 → ∀ W : World, Calls Try.prog 93 #[.agg #[.int .u64 hi, .int .u64 lo], .int .i64 m] W fun e w' => e = .returned (.int .i64 (Route.of hi lo m)) ∧ Below W.heap.size W w') := fun hi lo h1 h2 W => route_of hi lo h1 h2 m hI W
  have HLT : Hid (∀ hi lo, 0 ≤ Route.of hi lo m ∧ Route.of hi lo m < m) := fun hi lo => Route.of_lt hi lo m hb
  have HM := Lib.hid hm
  have HG : Hid ((fun j : Nat => Ky.part m j (L.take N)) = fun j : Nat => Ky.part m j L) := by show _ = _; rw [← hn, List.take_length]
  have HLE : Hid (∀ j k : Nat, (Ky.part m j (L.take k)).length ≤ k) := fun j k => Nat.le_trans (List.length_filter_le _ _) (by rw [List.length_take]; omega)
  clear hs hIn hn R hI hb
  go_enter Try.func26, Try.ntmps26
  go_upto_region 4 with (first | ((with_reducible refine (PR.out _).mono ?_); rintro e w1 ⟨rfl, rfl⟩) | (at_make; refine wpList_make_rows rfl _ _ 54 rfl 53 Try.underlying54 slKyInfo m rfl rfl (by omega) ?_))
  have Q0 : Hid (Parts (w.alloc (.cells (rowOf m fun _ => .slice none 0 0) 53)) w.heap.size w.heap.size m (fun _ => .slice none 0 0) (fun j => Ky.part m j (L.take 0))) := Parts.start rfl (Nat.le_refl _)
  have B0 := Lib.hid (below1 w (.cells (rowOf m fun _ => .slice none 0 0) 53))
  obtain ⟨P, hP⟩ : ∃ P, P = w.heap.size := ⟨_, rfl⟩
  generalize hW0 : w.alloc (.cells (rowOf m fun _ => .slice none 0 0) 53) = W0 at *
  clear hW0 PR
  have Q1 : Hid (Parts W0 w.heap.size P m (fun _ => .slice none 0 0) (fun j => Ky.part m j (L.take 0))) := by rw [hP]; exact Q0.out
  rw [← hP]
  clear Q0 hP
  go_wp2
  go_loopw [16] (fun i wr => ∃ (k : Nat) (v : Nat → Value), k ≤ N ∧ i = .int .i64 k ∧ Parts wr w.heap.size P m v (fun j => Ky.part m j (L.take k)) ∧ Below w.heap.size w wr) (fun i _ => N - (intOf i).toNat)
  case atStart => exact ⟨0, _, by omega, rfl, Q1.out, B0.out⟩
  case round =>
    clear Q1 B0
    obtain ⟨k, v, hk, rfl, hQ, hB⟩ := hrel
    by_cases hlt : k < N
    · have hkl : k < L.length := by have := HN.out; omega
      obtain ⟨b, off, rfl, hbw, _⟩ := HS.out.cells k hkl
      obtain ⟨c0, c1⟩ := HS.out.at k hkl hB
      have hai : (L[k]?.getD default).In := by rw [List.getElem?_eq_getElem hkl]; exact HIN.out _ (by simp)
      have hor := HLT.out (L[k]?.getD default).hi (L[k]?.getD default).lo
      obtain ⟨i, hi⟩ : ∃ i : Nat, Route.of (L[k]?.getD default).hi (L[k]?.getD default).lo m = i := ⟨(Route.of (L[k]?.getD default).hi (L[k]?.getD default).lo m).toNat, by omega⟩
      have him : i < m := by omega
      have HU := Lib.hid (Ky.part_upd m L k i hkl hi)
      obtain ⟨a, ha⟩ : ∃ a, a = L[k]?.getD default := ⟨_, rfl⟩
      rw [← ha] at c0 c1 hai hi HU
      have P1 := HO.out a.hi a.lo hai.hi hai.lo
      rw [hi] at P1
      have PO := Lib.hid P1
      have HQ := Lib.hid hQ
      have HB := Lib.hid hB
      have hkn : (k : Int) < N := by omega
      have hk0 : (0 : Int) ≤ k := by omega
      have Z0 : Hid ((wr.alloc (.cells #[.int .u64 0, .int .u64 0] 159)).heap[wr.heap.size]? = some (.cells #[.int .u64 0, .int .u64 0] 159 (0, 0))) := heap_alloc_at _ _ _ rfl
      clear ha hQ hB hai hor hi P1 hkl
      go_upto_region 7 with (first | ((with_reducible refine wpList_store_rowAs rfl 159 _ _ rfl (wr.heap.size) #[.int .u64 (a.hi : Nat), .int .u64 (a.lo : Nat)] ?_ ?_ 159 #[.int .u64 0, .int .u64 0] 2 ?_ (by kernel_rfl) rfl rfl (by simp [Value.oneCell']) ?_); exact rfl; exact rfl; exact Z0.out; (first | rw [row_1_0] | rw [row_2_0] | rw [row_2_1] | rw [row_3_0] | rw [row_3_1] | rw [row_3_2] | rw [row_4_0] | rw [row_4_1] | rw [row_4_2] | rw [row_4_3] | rw [row_5_0] | rw [row_5_1] | rw [row_5_2] | rw [row_5_3] | rw [row_5_4] | rw [row_6_0] | rw [row_6_1] | rw [row_6_2] | rw [row_6_3] | rw [row_6_4] | rw [row_6_5] | simp only [setRow_alloc_past, setRow_alloc_at, World.size_alloc, Nat.add_assoc, Nat.reduceAdd, Nat.lt_add_right_iff_pos, Nat.add_lt_add_iff_left, Nat.reduceLT, Nat.zero_lt_succ, Nat.lt_add_one])) | fail)
      have hbz := below1 wr (.cells #[.int .u64 (a.hi : Nat), .int .u64 (a.lo : Nat)] 159)
      have Q1 := Lib.hid (HQ.out.below hbz)
      have B1 := Lib.hid (HB.out.trans (hbz.mono HB.out.size))
      have K1 : Hid ((wr.alloc (.cells #[.int .u64 (a.hi : Nat), .int .u64 (a.lo : Nat)] 159)).heap[wr.heap.size]? = some (.cells #[.int .u64 (a.hi : Nat), .int .u64 (a.lo : Nat)] 159 (0, 0))) := heap_alloc_at _ _ _ rfl
      clear hbz HQ HB Z0 c0 c1
      generalize hW1 : wr.alloc (.cells #[.int .u64 (a.hi : Nat), .int .u64 (a.lo : Nat)] 159) = W1 at *
      generalize hY : wr.heap.size = Y at *
      clear hW1 hY
      go_wp2_with (first | ((with_reducible refine wpList_load_rowAs rfl 159 _ rfl (Y) ?_ 159 #[.int .u64 (a.hi : Nat), .int .u64 (a.lo : Nat)] (0, 0) _ 2 ?_ Try.underlying159 rfl (by kernel_rfl) ?_ ?_); exact rfl; exact K1.out; exact rfl) | fail)
      (with_reducible refine (PO.out _).mono ?_)
      rintro e w2 ⟨rfl, hb⟩
      have Q2 := Lib.hid (Q1.out.below hb)
      have B2 := Lib.hid (B1.out.trans (hb.mono B1.out.size))
      have K2 := Lib.hid ((hb.block _ (lt_of_heap K1.out)).trans K1.out)
      clear hb PO Q1 B1 K1
      go_upto_region 8 with fail
      have hst := stab_and (stab_parts (B := w.heap.size) (P := P) (n := m) (v := v) (xs := fun j => Ky.part m j (L.take k))) (stab_and (stab_heap Y (.cells #[.int .u64 (a.hi : Nat), .int .u64 (a.lo : Nat)] 159 (0, 0))) (stab_below (B := w.heap.size) (w0 := w) (Nat.le_refl _)))
      refine wp_region_E mixed [8, 10] hst ⟨Q2.out.below (below_drew (Below.refl _ _)), K2.out, below_drew B2.out⟩ ?_
      clear Q2 B2 K2
      refine wpAnyE_take 0 rfl (by kernel_rfl) (by kernel_rfl) (by kernel_rfl) (fun _ _ _ h => h) hst (EffB.pure rfl (fun _ => rfl)) (.inr (EffB.pure rfl (fun _ => rfl))) ?_
      simp only [act_norm]
      refine wpAnyE_take 1 rfl (by kernel_rfl) (by kernel_rfl) (by kernel_rfl) (fun _ _ _ h => h) hst (EffB.pure rfl (fun _ => rfl)) (.inr (EffB.pure rfl (fun _ => rfl))) ?_
      simp only [act_norm]
      refine wpAnyE_take 2 rfl (by kernel_rfl) (by kernel_rfl) (by kernel_rfl) (fun _ _ _ h => h) hst (EffB.pure rfl (fun _ => rfl)) (.inr (EffB.pure rfl (fun _ => rfl))) ?_
      simp only [act_norm]
      refine wpAnyE_take 3 rfl (by kernel_rfl) (by kernel_rfl) (by kernel_rfl) (fun _ _ _ h => h) hst (EffB.pure rfl (fun _ => rfl)) (.inr (EffB.pure rfl (fun _ => rfl))) ?_
      simp only [act_norm]
      refine wpAnyE_take 4 (v := .pointer (some ⟨P, i, none⟩)) rfl (by kernel_rfl) (by kernel_rfl) (by kernel_rfl) (fun _ _ _ h => h) hst (EffB.run rfl rfl (fun wd hS => ?_)) (.inr (EffB.run rfl rfl (fun wd hS => ?_))) ?_
      · (go_wp2; exact ⟨rfl, Below.refl _ _⟩)
      · (go_wp2; exact ⟨rfl, Below.refl _ _⟩)
      simp only [act_norm]
      refine wpAnyE_take 5 (v := v i) rfl (by kernel_rfl) (by kernel_rfl) (by kernel_rfl) (fun _ _ _ h => h) hst (EffB.run rfl rfl (fun wd hS => ?_)) (.inl (by kernel_rfl)) ?_
      · (have cv := hS.1.cell i him; go_wp2; exact ⟨rfl, Below.refl _ _⟩)
      simp only [act_norm]
      refine wpAnyE_take 6 (v := .agg #[.int .u64 (a.hi : Nat), .int .u64 (a.lo : Nat)]) rfl (by kernel_rfl) (by kernel_rfl) (by kernel_rfl) (fun _ _ _ h => h) hst (EffB.run rfl rfl (fun wd hS => ?_)) (.inl (by kernel_rfl)) ?_
      · exact wp_load_row 159 _ rfl (Y) rfl 159 #[.int .u64 (a.hi : Nat), .int .u64 (a.lo : Nat)] (0, 0) _ (hS.2.1) Try.underlying159 rfl (by kernel_rfl) ⟨rfl, Below.refl _ _⟩
      simp only [act_norm]
      refine wpAnyE_one 7 rfl (by kernel_rfl) rfl (fun wd hS => ?_)
      have hst2 := stab_and hst (stab_heap wd.heap.size (.cells #[.int .u64 (a.hi : Nat), .int .u64 (a.lo : Nat)] 159 (0, 0)))
      have X1 := Lib.hid (And.intro (hst _ _ hS (below1 wd (.cells #[.int .u64 (a.hi : Nat), .int .u64 (a.lo : Nat)] 159))) (heap_alloc_at wd (.cells #[.int .u64 (a.hi : Nat), .int .u64 (a.lo : Nat)] 159) wd.heap.size rfl))
      clear hS
      go_wp2
      refine ⟨_, X1.out, hst2, (by first | exact fun _ h => h.1 | exact .inr fun _ h => h.1), ?_⟩
      obtain ⟨X, hX⟩ : ∃ X, wd.heap.size = X := ⟨_, rfl⟩
      rw [hX] at hst2 ⊢
      clear X1 hst hX
      try simp only [act_norm]
      refine wpAnyE_one 8 rfl (by kernel_rfl) rfl (fun wd hS => ?_)
      have c28 : ∀ (j : Nat) (u : Value), (kyVals [a])[j]? = some u → wd.cell? ⟨X, j, none⟩ = some u := fun j u hu => by
        rw [cell_of_row _ _ _ _ _ _ hS.2]
        simpa [kyVals] using hu
      have hlek := HLE.out i k
      have hm64 := HM.out
      refine wp_append_any2 _ _ 53 rfl w.heap.size 159 (.agg #[.int .u64 0, .int .u64 0]) 2 16 Try.underlying53 kyInfo rfl (by decide) (v i) (Ky.part m i (L.take k)).length (kyVals (Ky.part m i (L.take k))) rfl (hS.1.1.own i him) (some ⟨X, 0, none⟩) 1 1 (kyVals [a]) rfl rfl (by simp) (fun ad had j u hu => by cases had; rw [Addr.add_mid, Nat.zero_add]; exact c28 j u hu) (fun u hu => by simp only [kyVals, List.mem_cons, List.not_mem_nil, or_false] at hu; rcases hu with rfl | rfl <;> rfl) (by unfold maxLen; omega) (by omega) hS.1.2.2.size ?_
      intro u1 wx ha1 hg1 hw1
      have ho : Owns wx w.heap.size 2 u1 (Ky.part m i (L.take k) ++ [a]).length (kyVals (Ky.part m i (L.take k) ++ [a])) := by rw [kyVals_append, List.length_append]; exact ha1
      obtain ⟨p1, cap1, rfl, _⟩ := ha1.sl
      have hU := hS.1.1.grow him ho hg1 hw1
      have hBx := hS.1.2.2.grown hg1 hS.1.2.2.size (fun z hz => ((hS.1.1.own i him).lt z hz).1)
      have X3 := Lib.hid (And.intro hU hBx)
      have hst3 := stab_and (stab_partsU (B := w.heap.size) (P := P) (n := m) (v := v) (xs := fun j => Ky.part m j (L.take k)) (i := i) (u := .slice p1 ((Ky.part m i (L.take k)).length + 1) cap1) (ys := Ky.part m i (L.take k) ++ [a])) (stab_below (B := w.heap.size) (w0 := w) (Nat.le_refl _))
      clear hS ha1 hg1 hw1 ho hU hBx hst2 c28
      refine ⟨_, X3.out, hst3, .inl (by simp), ?_⟩
      clear X3
      have hst := hst3
      try simp only [act_norm]
      refine wpAnyE_take 9 (v := .pointer (some ⟨P, i, none⟩)) rfl (by kernel_rfl) (by kernel_rfl) (by kernel_rfl) (fun _ _ _ h => h) hst (EffB.run rfl rfl (fun wd hS => ?_)) (.inr (EffB.run rfl rfl (fun wd hS => ?_))) ?_
      · (go_wp2; exact ⟨rfl, Below.refl _ _⟩)
      · (go_wp2; exact ⟨rfl, Below.refl _ _⟩)
      simp only [act_norm]
      refine wpAnyE_one 10 rfl (by kernel_rfl) rfl (fun wd hS => ?_)
      have c3 := hS.1.cell i him
      have g3 := frozen_of_row wd P i _ _ hS.1.row
      have hfin := hS.1.set
      rw [← HU.out] at hfin
      have hbf := hS.2.setCell (p := ⟨P, i, none⟩) hS.1.low (.slice p1 ((Ky.part m i (L.take k)).length + 1) cap1)
      have X4 := Lib.hid (And.intro hfin hbf)
      have hst4 := stab_and (stab_parts (B := w.heap.size) (P := P) (n := m) (v := upd v i (.slice p1 ((Ky.part m i (L.take k)).length + 1) cap1)) (xs := fun j => Ky.part m j (L.take (k + 1)))) (stab_below (B := w.heap.size) (w0 := w) (Nat.le_refl _))
      clear hS hst hst3 hfin hbf
      go_wp2
      refine ⟨_, X4.out, hst4, ?_⟩
      clear X4
      try simp only [act_norm]
      refine wpAnyE_done (by kernel_rfl) (fun wd hS => ?_) _
      have HF := Lib.hid hS
      clear hS hst4 c3 g3
      go_wp2
      go_roundw
      case rel => exact ⟨k + 1, _, by omega, by go_num, HF.out.1, HF.out.2⟩
      case measure => simp [intOf]; omega
    · obtain rfl : k = N := by omega
      rw [HG.out] at hQ
      have HQ := Lib.hid hQ
      have HB := Lib.hid hB
      clear hQ hB
      go_wp2
      go_ret
      exact ⟨P, v, rfl, HQ.out, HB.out⟩
end Go.Proofs.Ytapgcbjlgekpeaa
