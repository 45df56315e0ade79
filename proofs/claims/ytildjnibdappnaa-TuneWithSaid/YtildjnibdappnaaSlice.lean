/- Slices that a call owns: read, grown by append, carried. -/
import Derived.Test.YtildjnibdappnaaMem
import Derived.ArgAppend
import Derived.OwnWalk
import Derived.Deep.Upon
import Derived.Laws.IdiomStrings
namespace Go.Proofs.Ytildjnibdappnaa
open Go.ChangeShapes Go.WideShapes Go.ChangeAt Go.RowKit

/-- A slice that begins at a new block's head (above B), with room that may be written; or nil. -/
def Owns (w : World) (B sz : Nat) (v : Value) (n : Nat) (xs : List Value) : Prop :=
  xs.length = n * sz ∧
  ((v = .slice none 0 0 ∧ n = 0) ∨
   ∃ g cap, v = .slice (some ⟨g, 0, none⟩) n cap ∧ B ≤ g ∧ g < w.heap.size ∧ n ≤ cap ∧
     (∀ j u, xs[j]? = some u → w.cell? ⟨g, j, none⟩ = some u) ∧
     (∀ j, j < cap * sz → (w.cell? ⟨g, j, none⟩).isSome = true ∧ w.frozen? ⟨g, j, none⟩ = false))

section
variable {w w' : World} {B sz : Nat} {v : Value} {n : Nat} {xs : List Value}

theorem owns_nil (w : World) (B sz : Nat) : Owns w B sz (.slice none 0 0) 0 [] := ⟨by simp, .inl ⟨rfl, rfl⟩⟩

theorem owns_of_row {e : TypeId} (h : w.ownsRow B e sz v n xs) : Owns w B sz v n xs := by
  refine ⟨h.1, ?_⟩
  rcases h.2 with h2 | ⟨g, cap, cur, rfl, hb, hg, hn, hm, hs, ht⟩
  · exact .inl h2
  · refine .inr ⟨g, cap, rfl, hb, lt_of_heap hg, hn, fun j u hu => ?_, fun j hj => ⟨?_, ?_⟩⟩
    · rw [cell_of_row w g j cur e (0, 0) hg]
      rw [← ht, List.getElem?_take] at hu
      split at hu
      · simpa using hu
      · cases hu
    · rw [cell_of_row w g j cur e (0, 0) hg]
      simp [hs, hj]
    · simp [World.frozen?, hg]

theorem Owns.lt (h : Owns w B sz v n xs) : ∀ k, v.ownBlock = some k → B ≤ k ∧ k < w.heap.size := by
  intro k hk
  rcases h.2 with ⟨rfl, _⟩ | ⟨g, cap, rfl, hb, hg, _⟩
  · simp [Value.ownBlock] at hk
  · simp [Value.ownBlock] at hk
    subst hk
    exact ⟨hb, hg⟩

theorem Owns.mono {B' : Nat} (h : Owns w B sz v n xs) (hb : B' ≤ B) : Owns w B' sz v n xs := by
  refine ⟨h.1, ?_⟩
  rcases h.2 with h2 | ⟨g, cap, h1, h2, h3⟩
  · exact .inl h2
  · exact .inr ⟨g, cap, h1, Nat.le_trans hb h2, h3⟩

theorem Owns.same (h : Owns w B sz v n xs) (hs : w.heap.size ≤ w'.heap.size) (hk : ∀ k, v.ownBlock = some k → w'.heap[k]? = w.heap[k]?) : Owns w' B sz v n xs := by
  refine ⟨h.1, ?_⟩
  rcases h.2 with h2 | ⟨g, cap, rfl, h2, h3, h4, h5, h6⟩
  · exact .inl h2
  · have hg := hk g rfl
    refine .inr ⟨g, cap, rfl, h2, by omega, h4, fun j u hu => ?_, fun j hj => ?_⟩
    · rw [World.cell?_of_block (w := w) (by exact hg)]; exact h5 j u hu
    · rw [World.cell?_of_block (w := w) (by exact hg), World.frozen?_of_block (w := w) (by exact hg)]; exact h6 j hj

theorem Owns.below (h : Owns w B sz v n xs) (hb : Below w.heap.size w w') : Owns w' B sz v n xs :=
  h.same hb.size fun k hk => hb.block k (h.lt k hk).2

theorem Owns.kept {row : Option Nat} (h : Owns w B sz v n xs) (hg : w.grownBy w' row) (hne : v.ownBlock = none ∨ v.ownBlock ≠ row) : Owns w' B sz v n xs :=
  h.same hg.size fun k hk => hg.block k (h.lt k hk).2 (by
    rw [← hk]
    rcases hne with h | h
    · rw [h] at hk; cases hk
    · exact h)

/-- What it is, and how it reads. -/
theorem Owns.sl (h : Owns w B sz v n xs) : ∃ p cap, v = .slice p n cap ∧ n ≤ cap ∧ (p = none → n = 0 ∧ cap = 0) ∧ Sl w p n sz (fun j => xs[j]?.getD undef) ∧
    ∀ ad, p = some ad → ∀ j u, xs[j]? = some u → w.cell? (ad.add j) = some u := by
  rcases h.2 with ⟨rfl, rfl⟩ | ⟨g, cap, rfl, h2, h3, h4, h5, h6⟩
  · exact ⟨none, 0, rfl, Nat.le_refl _, fun _ => ⟨rfl, rfl⟩, .inl rfl, fun _ h => by cases h⟩
  · refine ⟨_, cap, rfl, h4, fun h => (by cases h), Or.inr ⟨g, 0, rfl, h3, fun j hj => ?_⟩, fun ad had j u hu => ?_⟩
    · have hl : j < xs.length := by rw [h.1]; exact hj
      rw [Nat.zero_add]
      exact h5 j _ (by simp [hl])
    · obtain rfl : ad = ⟨g, 0, none⟩ := by simpa using had.symm
      have hadd : (⟨g, 0, none⟩ : Addr).add j = ⟨g, j, none⟩ := by unfold Addr.add; split <;> simp_all
      rw [hadd]
      exact h5 j u hu
end

theorem isSome_setCells (b : Nat) : ∀ (vs : List Value) (o : Nat) (w : World) (x : Addr), (w.cell? x).isSome = true → ((w.setCells b o vs).cell? x).isSome = true
  | [], _, _, _, h => h
  | v :: r, o, w, x, h => isSome_setCells b r (o + 1) _ x (by
      by_cases hx : x = ⟨b, o, none⟩
      · subst hx; obtain ⟨u, hu⟩ := Option.isSome_iff_exists.1 h; rw [World.cell?_setCell_same _ _ _ hu]; rfl
      · rw [World.cell?_setCell_other _ _ _ _ (fun e => hx e.symm)]; exact h)

theorem below_setCells (g : Nat) : ∀ (vs : List Value) (o : Nat) {w0 w : World}, Below g w0 w → Below g w0 (w.setCells g o vs)
  | [], _, _, _, h => h
  | v :: r, o, _, _, h => below_setCells g r (o + 1) (h.setCell (by simp) v)

theorem run_append_any {P : Program} (w : World) (B : Nat) (t ty e : TypeId) (i : TypeInfo) (z : Value) (size bytes : Nat) (ht : P.underlying t = some (.slice e)) (hi : P.info? e = some i) (hz : i.zero = some z)
    (hsize : i.size = size) (hby : i.bytes = bytes) (hzs : z.cells.size = size) (hsz : 0 < size)
    (v : Value) (n : Nat) (xs : List Value) (hown : Owns w B size v n xs)
    (ao : Option Addr) (m c : Nat) (news : List Value) (hl : news.length = m * size) (hnone : ao = none → m = 0 ∧ c = 0) (hnews : ∀ ad, ao = some ad → ∀ j u, news[j]? = some u → w.cell? (ad.add j) = some u) (h1 : ∀ u ∈ news, u.oneCell' = true)
    (h63 : n + m ≤ maxLen) (hbytes : (n + m) * bytes ≤ 140737488355328) (hB : B ≤ w.heap.size) :
    ∃ v' w', (Builtin.append_ #[t, t] ty #[v, .slice ao m c]).run P w = .ok v' w' ∧ Owns w' B size v' (n + m) (xs ++ news) ∧ w.grownBy w' v.ownBlock := by
  cases ao with
  | none =>
    obtain ⟨rfl, rfl⟩ := hnone rfl
    obtain rfl : news = [] := List.eq_nil_of_length_eq_zero (by simpa using hl)
    refine ⟨v, w, ?_, by simpa using hown, World.grownBy.refl _ _⟩
    rcases hown.2 with ⟨rfl, rfl⟩ | ⟨g, cap, rfl, _, _, hnc, _⟩
    · simp [Builtin.append_, run_underlying ht, sizeOf, typeInfo, hi, Builtin.lenOf, Builtin.firstCells]
    · simp [Builtin.append_, run_underlying ht, sizeOf, typeInfo, hi, Builtin.lenOf, Builtin.firstCells, hnc, storeCells]
  | some ad =>
    rcases hown.2 with ⟨rfl, rfl⟩ | ⟨g, cap, rfl, hb, hg, hnc, hx, hw⟩
    · obtain rfl : xs = [] := List.eq_nil_of_length_eq_zero (by simpa using hown.1)
      obtain ⟨v', w', hrun, r1, r2, _⟩ := run_append_own (P := P) w w.heap.size t ty e i z size bytes ht hi hz hsize hby hzs hsz (.slice none 0 0) 0 [] (World.ownsRow_nil w _ e size) ad m c news hl (hnews ad rfl) h1 h63 hbytes (Nat.le_refl _)
      exact ⟨v', w', hrun, (owns_of_row r1).mono hB, r2⟩
    · by_cases hr : n + m ≤ cap
      · have hspare : ∀ j, j < news.length → (w.cell? ⟨g, 0 + n * size + j, none⟩).isSome = true ∧ w.frozen? ⟨g, 0 + n * size + j, none⟩ = false := fun j hj => by
          have h2 : (n + m) * size ≤ cap * size := Nat.mul_le_mul_right _ hr
          rw [Nat.add_mul] at h2
          exact hw _ (by omega)
        have hrun := run_append_room_cells (P := P) w t ty e i ht hi g 0 n cap ad m c news (by rw [hsize]; exact hl) (hnews ad rfl) h1 hr (by rw [hsize]; exact fun j hj => (hspare j hj).1) (by rw [hsize]; exact fun j hj => (hspare j hj).2)
        rw [hsize] at hrun
        refine ⟨_, _, hrun, ⟨by rw [List.length_append, hown.1, hl, Nat.add_mul], .inr ⟨g, cap, rfl, hb, ?_, hr, fun j u hu => ?_, fun j hj => ⟨?_, ?_⟩⟩⟩, ?_⟩
        · have := (below_setCells g news (0 + n * size) (Below.refl g w)).size
          omega
        · by_cases hj : j < n * size
          · rw [List.getElem?_append_left (by rw [hown.1]; exact hj)] at hu
            rw [World.cell?_setCells_out g news _ w ⟨g, j, none⟩ (fun _ _ => .inl (by simp; omega))]
            exact hx j u hu
          · rw [List.getElem?_append_right (by rw [hown.1]; omega), hown.1] at hu
            have hlt := (List.getElem?_eq_some_iff.1 hu).1
            have := World.cell?_setCells_in g news (0 + n * size) w (fun j hj => (hspare j hj).1) (j - n * size) hlt
            rw [show 0 + n * size + (j - n * size) = j by omega] at this
            rw [this, ← hu, List.getElem?_eq_getElem hlt]
        · exact isSome_setCells _ _ _ _ _ (hw j hj).1
        · rw [World.frozen?_setCells]; exact (hw j hj).2
        · have hbl := below_setCells g news (0 + n * size) (Below.refl g w)
          refine ⟨hbl.os, hbl.tape, hbl.output, hbl.size, fun k hk hne => ?_⟩
          exact World.heap_setCells_other w g _ _ hk (fun h => hne (by rw [h]; rfl))
      · obtain ⟨v', w', hrun, r1, r2⟩ := run_append_arg_grows (P := P) w t ty e i z size bytes ht hi hz hsize hby hzs hsz ⟨g, 0, none⟩ n cap xs hown.1 (fun j u hu => by
          have hadd : (⟨g, 0, none⟩ : Addr).add j = ⟨g, j, none⟩ := by unfold Addr.add; split <;> simp_all
          rw [hadd]; exact hx j u hu) ad m c news hl (hnews ad rfl) (by omega) h63 hbytes
        exact ⟨v', w', hrun, (owns_of_row r1).mono hB, ⟨r2.os, r2.tape, r2.output, r2.size, fun k hk _ => r2.block k hk (by simp)⟩⟩


/-- A text's bytes. -/
def Str.bytes (s : ByteArray) : List Nat := s.data.toList.map (·.toNat)
theorem Str.length (s : ByteArray) : (Str.bytes s).length = s.size := by simp [Str.bytes]
theorem Str.at (s : ByteArray) (k : Nat) (h : k < s.size) : (s[k]'h).toNat = (Str.bytes s)[k]?.getD 0 := by
  have : (s[k]'h).toNat = ((s.data.toList[k]'(by simpa using h))).toNat := rfl
  rw [this]
  simp [Str.bytes, h]
theorem Str.lt (s : ByteArray) : ∀ n ∈ Str.bytes s, n < 256 := by
  intro n hn
  simp only [Str.bytes, List.mem_map] at hn
  obtain ⟨b, _, rfl⟩ := hn
  exact b.toNat_lt
theorem Str.at_lt (s : ByteArray) (k : Nat) : (Str.bytes s)[k]?.getD 0 < 256 := by
  cases h : (Str.bytes s)[k]? with
  | none => simp
  | some n => exact Str.lt s n (List.mem_of_getElem? h)
/-- The text of these bytes. -/
def Str.mk (l : List Nat) : ByteArray := ⟨(l.map UInt8.ofNat).toArray⟩
theorem Str.bytes_mk (l : List Nat) (h : ∀ n ∈ l, n < 256) : Str.bytes (Str.mk l) = l := by
  unfold Str.bytes Str.mk
  simp only [List.map_map]
  conv => rhs; rw [← List.map_id l]
  apply List.map_congr_left
  intro n hn
  have := h n hn
  simp
  omega
theorem Str.mk_bytes (s : ByteArray) : Str.mk (Str.bytes s) = s := by
  unfold Str.bytes Str.mk
  simp only [List.map_map]
  have : (UInt8.ofNat ∘ fun b : UInt8 => b.toNat) = id := by funext b; simp
  rw [this]
  simp
theorem Str.mk_size (l : List Nat) : (Str.mk l).size = l.length := by simp [Str.mk, ByteArray.size]

/-- Bytes as values. -/
def byteVals (l : List Nat) : List Value := l.map fun n : Nat => Value.int .u8 (n : Int)
theorem byteVals_len (l : List Nat) : (byteVals l).length = l.length := by simp [byteVals]
theorem byteVals_append (l m : List Nat) : byteVals (l ++ m) = byteVals l ++ byteVals m := by simp [byteVals]

section
variable {P : Program} {ops : Array Oper} {rest : List Oper} {o : Oper} {a : Act} {w : World} {Q : Exit → Act → World → Prop}

theorem run_bytes_own (w : World) (src dst e : TypeId) (s : ByteArray) (hs : P.underlying src = some .string) (hd : P.underlying dst = some (.slice e)) (he : P.underlying e = some (.int .u8)) :
    ∃ v w', (convert src dst (.string s)).run P w = .ok v w' ∧ Owns w' w.heap.size 1 v s.size (byteVals (Str.bytes s)) ∧ Below w.heap.size w w' := by
  refine ⟨_, _, run_bytes_of_string w src dst e s hs hd he, ⟨by rw [byteVals_len, Str.length]; omega, .inr ⟨w.heap.size, _, rfl, Nat.le_refl _, (by show _ < (w.heap.push _).size; simp), grownCap_ge _ _ _ _, fun j u hu => ?_, fun j hj => ?_⟩⟩, ?_⟩
  · have hr : (bytesRow s (grownCap w s.size 0 e))[j]? = some u := by
      have hlt := (List.getElem?_eq_some_iff.1 hu).1
      rw [byteVals_len, Str.length] at hlt
      unfold bytesRow
      rw [Array.getElem?_append_left (by simpa using hlt)]
      rw [← hu]
      simp [byteVals, Str.bytes]
      rfl
    exact (cell_of_row _ w.heap.size j _ e _ (heap_alloc_at _ _ _ rfl)).trans hr
  · have hsz : (bytesRow s (grownCap w s.size 0 e)).size = grownCap w s.size 0 e := by
      have := grownCap_ge w s.size 0 e
      simp [bytesRow]
      omega
    constructor
    · have hcell := cell_of_row (w.drew.alloc (.cells (bytesRow s (grownCap w s.size 0 e)) e ((bytesRow s (grownCap w s.size 0 e)).size, (bytesRow s (grownCap w s.size 0 e)).size + 1))) w.heap.size j _ e _ (heap_alloc_at _ _ _ rfl)
      rw [hcell, Array.getElem?_eq_getElem (by rw [hsz]; omega)]
      rfl
    · have hh : (w.drew.alloc (.cells (bytesRow s (grownCap w s.size 0 e)) e ((bytesRow s (grownCap w s.size 0 e)).size, (bytesRow s (grownCap w s.size 0 e)).size + 1))).heap[w.heap.size]? = _ := heap_alloc_at _ _ _ rfl
      simp only [World.frozen?, hh]
      rw [hsz]
      simp
      omega
  · exact ((Below.refl _ _).drew).alloc (Nat.le_refl _) _

/-- '[]byte(s)'. -/
theorem wpList_bytes_own (hgd : o.guard = none) (src dst : TypeId) (x : Operand) (ho : o.op = .convert src dst x) (e : TypeId) (s : ByteArray) (hx : a.eval x = .string s)
    (hs : P.underlying src = some .string) (hd : P.underlying dst = some (.slice e)) (he : P.underlying e = some (.int .u8))
    (h : ∀ v w', Owns w' w.heap.size 1 v s.size (byteVals (Str.bytes s)) → Below w.heap.size w w' → wpList P ops Q rest (a.put o.dst v) w') : wpList P ops Q (o :: rest) a w := by
  refine wpList_plain hgd fun K hK => ?_
  obtain ⟨v, w', hr, h1, h2⟩ := run_bytes_own (P := P) w src dst e s hs hd he
  unfold Oper.wp execOp
  simp only [ho, hx, Sem.run_bind, hr, Result.andThen_ok]
  exact hK _ _ (h v w' h1 h2)

theorem run_string_any (w : World) (src dst e : TypeId) (p : Option Addr) (cap : Nat) (l : List Nat) (hs : P.underlying src = some (.slice e)) (he : P.underlying e = some (.int .u8)) (hd : P.underlying dst = some .string)
    (hl : ∀ n ∈ l, n < 256) (hp : p = none → l.length = 0) (hc : ∀ ad, p = some ad → ∀ j u, (byteVals l)[j]? = some u → w.cell? (ad.add j) = some u) :
    (convert src dst (.slice p l.length cap)).run P w = .ok (.string (Str.mk l)) w := by
  cases p with
  | none =>
    obtain rfl : l = [] := List.eq_nil_of_length_eq_zero (hp rfl)
    show (convert src dst (.slice none 0 cap)).run P w = _
    rw [run_convert_bytes_string w src dst e none 0 cap hs he hd]
    simp [Conv.bytesToString, Str.mk]
    rfl
  | some ad =>
    have h := run_convert_bytes_back (P := P) w src dst e ad cap (l.map UInt8.ofNat) hs he hd (fun j hj => by
      have hj' : j < l.length := by simpa using hj
      rw [hc ad rfl j (Value.int .u8 ((l[j]'hj' : Nat) : Int)) (by simp [byteVals, hj'])]
      have := hl (l[j]'hj') (List.getElem_mem _)
      simp
      omega)
    rw [List.length_map] at h
    exact h

/-- 'append', whatever is appended, to a slice that the call owns. -/
theorem wpList_append_any (hgd : o.guard = none) (s x : Operand) (t : TypeId) (ho : o.op = .call { callee := .builtin .append, args := #[s, x], argTypes := #[t, t] })
    (B : Nat) (e : TypeId) (z : Value) (size bytes : Nat) (ht : P.underlying t = some (.slice e)) (hi : (P.info? e).map (fun i => (i.zero, i.size, i.bytes)) = some (some z, size, bytes)) (hzs : z.cells.size = size) (hsz : 0 < size)
    (v : Value) (n : Nat) (xs : List Value) (hs : a.eval s = v) (hown : Owns w B size v n xs)
    (ao : Option Addr) (m c : Nat) (news : List Value) (hx : a.eval x = .slice ao m c) (hl : news.length = m * size) (hnone : ao = none → m = 0 ∧ c = 0) (hnews : ∀ ad, ao = some ad → ∀ j u, news[j]? = some u → w.cell? (ad.add j) = some u) (h1 : ∀ u ∈ news, u.oneCell' = true)
    (h63 : n + m ≤ maxLen) (hbytes : (n + m) * bytes ≤ 140737488355328) (hB : B ≤ w.heap.size)
    (h : ∀ v' w', Owns w' B size v' (n + m) (xs ++ news) → w.grownBy w' v.ownBlock → wpList P ops Q rest (a.put o.dst v') w') : wpList P ops Q (o :: rest) a w := by
  refine wpList_plain hgd fun K hK => ?_
  obtain ⟨i, hi1, hi2, hi3, hi4⟩ := info_parts hi
  obtain ⟨v', w', hr, h2, h3⟩ := run_append_any (P := P) w B t o.type e i z size bytes ht hi1 hi2 hi3 hi4 hzs hsz v n xs hown ao m c news hl hnone hnews h1 h63 hbytes hB
  unfold Oper.wp execOp
  simp only [ho, resolve, invoke, builtin, Sem.run_bind, Sem.run_pure, Result.andThen_ok, List.map_toArray, List.map_cons, List.map_nil, hs, hx, hr]
  exact hK _ _ (h v' w' h2 h3)

theorem grown_trans {w w1 w2 : World} {row : Option Nat} (h : w.grownBy w1 row) (k : w1.grownBy w2 row) : w.grownBy w2 row :=
  ⟨k.os.trans h.os, k.tape.trans h.tape, k.output.trans h.output, Nat.le_trans h.size k.size, fun i hi hne => (k.block i (Nat.lt_of_lt_of_le hi h.size) hne).trans (h.block i hi hne)⟩

/-- 'append(s, x)': one element, laid in a new block just before. -/
theorem wpList_append_new (hgd : o.guard = none) (s x : Operand) (t : TypeId) (ho : o.op = .call { callee := .builtin .append, args := #[s, x], argTypes := #[t, t] })
    (w0 : World) (cs : Array Value) (T : TypeId) (hw : w = w0.alloc (.cells cs T))
    (B : Nat) (e : TypeId) (z : Value) (size bytes : Nat) (ht : P.underlying t = some (.slice e)) (hi : (P.info? e).map (fun i => (i.zero, i.size, i.bytes)) = some (some z, size, bytes)) (hzs : z.cells.size = size) (hsz : 0 < size)
    (v : Value) (n : Nat) (xs : List Value) (hs : a.eval s = v) (hown : Owns w0 B size v n xs)
    (hx : a.eval x = .slice (some ⟨w0.heap.size, 0, none⟩) 1 1) (hcs : cs.size = size) (h1 : ∀ u ∈ cs.toList, u.oneCell' = true)
    (h63 : n + 1 ≤ maxLen) (hbytes : (n + 1) * bytes ≤ 140737488355328) (hB : B ≤ w0.heap.size)
    (h : ∀ v' w', Owns w' B size v' (n + 1) (xs ++ cs.toList) → w0.grownBy w' v.ownBlock → Below B w0 w' → wpList P ops Q rest (a.put o.dst v') w') : wpList P ops Q (o :: rest) a w := by
  subst hw
  have hb1 : Below w0.heap.size w0 (w0.alloc (.cells cs T)) := below1 _ _
  have hown1 := hown.below hb1
  refine wpList_append_any hgd s x t ho B e z size bytes ht hi hzs hsz v n xs hs hown1 (some ⟨w0.heap.size, 0, none⟩) 1 1 cs.toList hx (by simpa using hcs) (fun h => by cases h) (fun ad had j u hu => ?_) h1 h63 hbytes (Nat.le_trans hB hb1.size) (fun v' w' k1 k2 => h v' w' k1 ?_ ?_)
  · obtain rfl : ad = ⟨w0.heap.size, 0, none⟩ := by simpa using had.symm
    have hadd : (⟨w0.heap.size, 0, none⟩ : Addr).add j = ⟨w0.heap.size, j, none⟩ := by unfold Addr.add; split <;> simp_all
    rw [hadd]
    exact (cell_of_row _ w0.heap.size j _ T (0, 0) (heap_alloc_at _ _ _ rfl)).trans (by simpa using hu)
  · exact grown_trans (World.grownBy_alloc w0 _ _) k2
  · exact (hb1.mono hB).grown k2 (Nat.le_trans hB hb1.size) (fun k hk => (hown.lt k hk).1)

theorem run_string_own (w : World) (src dst e : TypeId) {B : Nat} {v : Value} {n : Nat} {l : List Nat} (hs : P.underlying src = some (.slice e)) (he : P.underlying e = some (.int .u8)) (hd : P.underlying dst = some .string)
    (hl : ∀ n ∈ l, n < 256) (h : Owns w B 1 v n (byteVals l)) : (convert src dst v).run P w = .ok (.string (Str.mk l)) w := by
  have hn : n = l.length := by have := h.1; rw [byteVals_len] at this; omega
  subst hn
  obtain ⟨p, cap, rfl, _, h1, _, h2⟩ := h.sl
  exact run_string_any w src dst e p cap l hs he hd hl (fun h => (h1 h).1) h2
end
theorem u8Info : (Try.prog.info? 5).map (fun i => (i.zero, i.size, i.bytes)) = some (some (.int .u8 0), 1, 1) := by kernel_rfl
theorem i64Info : (Try.prog.info? 2).map (fun i => (i.zero, i.size, i.bytes)) = some (some (.int .i64 0), 1, 8) := by kernel_rfl
/-- Whole numbers as values. -/
def intVals (l : List Int) : List Value := l.map fun n : Int => Value.int .i64 n
theorem intVals_len (l : List Int) : (intVals l).length = l.length := by simp [intVals]
theorem intVals_append (l m : List Int) : intVals (l ++ m) = intVals l ++ intVals m := by simp [intVals]

/-- What a call owns reads as whole numbers. -/
theorem ints_of_owns {w : World} {B : Nat} {v : Value} {l : List Int} (h : Owns w B 1 v l.length (intVals l)) : ∃ p cap, v = .slice p l.length cap ∧ l.length ≤ cap ∧ Ints .i64 w p l := by
  obtain ⟨p, cap, hv, hc, _, hs, _⟩ := h.sl
  refine ⟨p, cap, hv, hc, ?_⟩
  rcases hs with hs | ⟨b, off, hp, hb, hcell⟩
  · exact .inl hs
  · refine .inr ⟨b, off, hp, hb, fun j hj => ?_⟩
    rw [hcell j hj]
    have hj' : j < l.length := by omega
    simp [intVals, hj']
theorem ints_alloc (w : World) (l : List Int) (T : TypeId) (cs : Array Value) (h : cs = (intVals l).toArray) : Ints .i64 (w.alloc (.cells cs T)) (some ⟨w.heap.size, 0, none⟩) l := by
  subst h
  refine .inr ⟨w.heap.size, 0, rfl, by simp, fun j hj => ?_⟩
  rw [World.cell?_alloc_at _ _ _ _ (by simp), Nat.zero_add]
  have hj' : j < l.length := by omega
  simp [intVals, hj']

end Go.Proofs.Ytildjnibdappnaa
