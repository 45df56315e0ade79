/- append, once more: where what was appended to lies. -/
import Derived.Test.YtildjnibdappnaaSlice
namespace Go.Proofs.Ytildjnibdappnaa
open Go.ChangeShapes Go.WideShapes Go.ChangeAt Go.RowKit

theorem run_append_any2 {P : Program} (w : World) (B : Nat) (t ty e : TypeId) (i : TypeInfo) (z : Value) (size bytes : Nat) (ht : P.underlying t = some (.slice e)) (hi : P.info? e = some i) (hz : i.zero = some z)
    (hsize : i.size = size) (hby : i.bytes = bytes) (hzs : z.cells.size = size) (hsz : 0 < size)
    (v : Value) (n : Nat) (xs : List Value) (hown : Owns w B size v n xs)
    (ao : Option Addr) (m c : Nat) (news : List Value) (hl : news.length = m * size) (hnone : ao = none → m = 0 ∧ c = 0) (hnews : ∀ ad, ao = some ad → ∀ j u, news[j]? = some u → w.cell? (ad.add j) = some u) (h1 : ∀ u ∈ news, u.oneCell' = true)
    (h63 : n + m ≤ maxLen) (hbytes : (n + m) * bytes ≤ 140737488355328) (hB : B ≤ w.heap.size) :
    ∃ v' w', (Builtin.append_ #[t, t] ty #[v, .slice ao m c]).run P w = .ok v' w' ∧ Owns w' B size v' (n + m) (xs ++ news) ∧ w.grownBy w' v.ownBlock ∧ (v'.ownBlock = v.ownBlock ∨ ∀ k, v'.ownBlock = some k → w.heap.size ≤ k) := by
  cases ao with
  | none =>
    obtain ⟨rfl, rfl⟩ := hnone rfl
    obtain rfl : news = [] := List.eq_nil_of_length_eq_zero (by simpa using hl)
    refine ⟨v, w, ?_, by simpa using hown, World.grownBy.refl _ _, .inl rfl⟩
    rcases hown.2 with ⟨rfl, rfl⟩ | ⟨g, cap, rfl, _, _, hnc, _⟩
    · simp [Builtin.append_, run_underlying ht, sizeOf, typeInfo, hi, Builtin.lenOf, Builtin.firstCells]
    · simp [Builtin.append_, run_underlying ht, sizeOf, typeInfo, hi, Builtin.lenOf, Builtin.firstCells, hnc, storeCells]
  | some ad =>
    rcases hown.2 with ⟨rfl, rfl⟩ | ⟨g, cap, rfl, hb, hg, hnc, hx, hw⟩
    · obtain rfl : xs = [] := List.eq_nil_of_length_eq_zero (by simpa using hown.1)
      obtain ⟨v', w', hrun, r1, r2, _⟩ := run_append_own (P := P) w w.heap.size t ty e i z size bytes ht hi hz hsize hby hzs hsz (.slice none 0 0) 0 [] (World.ownsRow_nil w _ e size) ad m c news hl (hnews ad rfl) h1 h63 hbytes (Nat.le_refl _)
      exact ⟨v', w', hrun, (owns_of_row r1).mono hB, r2, .inr (fun k hk => ((owns_of_row r1).lt k hk).1)⟩
    · by_cases hr : n + m ≤ cap
      · have hspare : ∀ j, j < news.length → (w.cell? ⟨g, 0 + n * size + j, none⟩).isSome = true ∧ w.frozen? ⟨g, 0 + n * size + j, none⟩ = false := fun j hj => by
          have h2 : (n + m) * size ≤ cap * size := Nat.mul_le_mul_right _ hr
          rw [Nat.add_mul] at h2
          exact hw _ (by omega)
        have hrun := run_append_room_cells (P := P) w t ty e i ht hi g 0 n cap ad m c news (by rw [hsize]; exact hl) (hnews ad rfl) h1 hr (by rw [hsize]; exact fun j hj => (hspare j hj).1) (by rw [hsize]; exact fun j hj => (hspare j hj).2)
        rw [hsize] at hrun
        refine ⟨_, _, hrun, ⟨by rw [List.length_append, hown.1, hl, Nat.add_mul], .inr ⟨g, cap, rfl, hb, ?_, hr, fun j u hu => ?_, fun j hj => ⟨?_, ?_⟩⟩⟩, ?_, .inl rfl⟩
        · have := (below_setCells g news (0 + n * size) (Below.refl g w)).size
          omega
        · by_cases hj : j < n * size
          · rw [List.getElem?_append_left (by rw [hown.1]; exact hj)] at hu
            rw [World.cell?_setCells_out g news _ w ⟨g, j, none⟩ (fun _ _ => .inl (by simp; omega))]
            exact hx j u hu
          · rw [List.getElem?_append_right (by rw [hown.1]; omega), hown.1] at hu
            have hlt := (List.getElem?_eq_some_iff.1 hu).1
            have := World.cell?_setCells_in g news (0 + n * size) w (fun j hj => (hspare j hj).1) (j - n * size) hlt
            rw [show 0 + n * size + (j - n * size) = j by omega] at this
            rw [this, ← hu, List.getElem?_eq_getElem hlt]
        · exact isSome_setCells _ _ _ _ _ (hw j hj).1
        · rw [World.frozen?_setCells]; exact (hw j hj).2
        · have hbl := below_setCells g news (0 + n * size) (Below.refl g w)
          refine ⟨hbl.os, hbl.tape, hbl.output, hbl.size, fun k hk hne => ?_⟩
          exact World.heap_setCells_other w g _ _ hk (fun h => hne (by rw [h]; rfl))
      · obtain ⟨v', w', hrun, r1, r2⟩ := run_append_arg_grows (P := P) w t ty e i z size bytes ht hi hz hsize hby hzs hsz ⟨g, 0, none⟩ n cap xs hown.1 (fun j u hu => by
          have hadd : (⟨g, 0, none⟩ : Addr).add j = ⟨g, j, none⟩ := by unfold Addr.add; split <;> simp_all
          rw [hadd]; exact hx j u hu) ad m c news hl (hnews ad rfl) (by omega) h63 hbytes
        exact ⟨v', w', hrun, (owns_of_row r1).mono hB, ⟨r2.os, r2.tape, r2.output, r2.size, fun k hk _ => r2.block k hk (by simp)⟩, .inr (fun k hk => ((owns_of_row r1).lt k hk).1)⟩

section
variable {P : Program} {ops : Array Oper} {rest : List Oper} {o : Oper} {a : Act} {w : World} {Q : Exit → Act → World → Prop}
theorem wpList_append_any2 (hgd : o.guard = none) (s x : Operand) (t : TypeId) (ho : o.op = .call { callee := .builtin .append, args := #[s, x], argTypes := #[t, t] })
    (B : Nat) (e : TypeId) (z : Value) (size bytes : Nat) (ht : P.underlying t = some (.slice e)) (hi : (P.info? e).map (fun i => (i.zero, i.size, i.bytes)) = some (some z, size, bytes)) (hzs : z.cells.size = size) (hsz : 0 < size)
    (v : Value) (n : Nat) (xs : List Value) (hs : a.eval s = v) (hown : Owns w B size v n xs)
    (ao : Option Addr) (m c : Nat) (news : List Value) (hx : a.eval x = .slice ao m c) (hl : news.length = m * size) (hnone : ao = none → m = 0 ∧ c = 0) (hnews : ∀ ad, ao = some ad → ∀ j u, news[j]? = some u → w.cell? (ad.add j) = some u) (h1 : ∀ u ∈ news, u.oneCell' = true)
    (h63 : n + m ≤ maxLen) (hbytes : (n + m) * bytes ≤ 140737488355328) (hB : B ≤ w.heap.size)
    (h : ∀ v' w', Owns w' B size v' (n + m) (xs ++ news) → w.grownBy w' v.ownBlock → (v'.ownBlock = v.ownBlock ∨ ∀ k, v'.ownBlock = some k → w.heap.size ≤ k) → wpList P ops Q rest (a.put o.dst v') w') : wpList P ops Q (o :: rest) a w := by
  refine wpList_plain hgd fun K hK => ?_
  obtain ⟨i, hi1, hi2, hi3, hi4⟩ := info_parts hi
  obtain ⟨v', w', hr, h2, h3, h4⟩ := run_append_any2 (P := P) w B t o.type e i z size bytes ht hi1 hi2 hi3 hi4 hzs hsz v n xs hown ao m c news hl hnone hnews h1 h63 hbytes hB
  unfold Oper.wp execOp
  simp only [ho, resolve, invoke, builtin, Sem.run_bind, Sem.run_pure, Result.andThen_ok, List.map_toArray, List.map_cons, List.map_nil, hs, hx, hr]
  exact hK _ _ (h v' w' h2 h3 h4)
theorem wpList_append_new2 (hgd : o.guard = none) (s x : Operand) (t : TypeId) (ho : o.op = .call { callee := .builtin .append, args := #[s, x], argTypes := #[t, t] })
    (w0 : World) (cs : Array Value) (T : TypeId) (hw : w = w0.alloc (.cells cs T))
    (B : Nat) (e : TypeId) (z : Value) (size bytes : Nat) (ht : P.underlying t = some (.slice e)) (hi : (P.info? e).map (fun i => (i.zero, i.size, i.bytes)) = some (some z, size, bytes)) (hzs : z.cells.size = size) (hsz : 0 < size)
    (v : Value) (n : Nat) (xs : List Value) (hs : a.eval s = v) (hown : Owns w0 B size v n xs)
    (hx : a.eval x = .slice (some ⟨w0.heap.size, 0, none⟩) 1 1) (hcs : cs.size = size) (h1 : ∀ u ∈ cs.toList, u.oneCell' = true)
    (h63 : n + 1 ≤ maxLen) (hbytes : (n + 1) * bytes ≤ 140737488355328) (hB : B ≤ w0.heap.size)
    (h : ∀ v' w', Owns w' B size v' (n + 1) (xs ++ cs.toList) → w0.grownBy w' v.ownBlock → Below B w0 w' → (v'.ownBlock = v.ownBlock ∨ ∀ k, v'.ownBlock = some k → w0.heap.size ≤ k) → wpList P ops Q rest (a.put o.dst v') w') : wpList P ops Q (o :: rest) a w := by
  subst hw
  have hb1 : Below w0.heap.size w0 (w0.alloc (.cells cs T)) := below1 _ _
  have hown1 := hown.below hb1
  refine wpList_append_any2 hgd s x t ho B e z size bytes ht hi hzs hsz v n xs hs hown1 (some ⟨w0.heap.size, 0, none⟩) 1 1 cs.toList hx (by simpa using hcs) (fun h => by cases h) (fun ad had j u hu => ?_) h1 h63 hbytes (Nat.le_trans hB hb1.size) (fun v' w' k1 k2 k3 => h v' w' k1 ?_ ?_ (k3.imp id (fun h k hk => Nat.le_trans hb1.size (h k hk))))
  · obtain rfl : ad = ⟨w0.heap.size, 0, none⟩ := by simpa using had.symm
    have hadd : (⟨w0.heap.size, 0, none⟩ : Addr).add j = ⟨w0.heap.size, j, none⟩ := by unfold Addr.add; split <;> simp_all
    rw [hadd]
    exact (cell_of_row _ w0.heap.size j _ T (0, 0) (heap_alloc_at _ _ _ rfl)).trans (by simpa using hu)
  · exact grown_trans (World.grownBy_alloc w0 _ _) k2
  · exact (hb1.mono hB).grown k2 (Nat.le_trans hB hb1.size) (fun k hk => (hown.lt k hk).1)
end
end Go.Proofs.Ytildjnibdappnaa
