/- Slices that a call owns, wherever in their block they begin. -/
import Derived.Test.YtapgcbjlgekpeaaJKit
import Derived.Test.YtapgcbjlgekpeaaJSer
namespace Go.Proofs.Ytapgcbjlgekpeaa
open Go.ChangeShapes Go.WideShapes Go.ChangeAt Go.RowKit

def OwnsO (w : World) (B sz : Nat) (v : Value) (n : Nat) (xs : List Value) : Prop :=
  xs.length = n * sz ∧
  ((v = .slice none 0 0 ∧ n = 0) ∨
   ∃ g o cap, v = .slice (some ⟨g, o, none⟩) n cap ∧ B ≤ g ∧ g < w.heap.size ∧ n ≤ cap ∧
     (∀ j u, xs[j]? = some u → w.cell? ⟨g, o + j, none⟩ = some u) ∧
     (∀ j, j < cap * sz → (w.cell? ⟨g, o + j, none⟩).isSome = true ∧ w.frozen? ⟨g, o + j, none⟩ = false))

section
variable {w w' : World} {B sz : Nat} {v : Value} {n : Nat} {xs : List Value}
theorem ownsO_nil (w : World) (B sz : Nat) : OwnsO w B sz (.slice none 0 0) 0 [] := ⟨by simp, .inl ⟨rfl, rfl⟩⟩
theorem Owns.O (h : Owns w B sz v n xs) : OwnsO w B sz v n xs := by
  refine ⟨h.1, ?_⟩
  rcases h.2 with h2 | ⟨g, cap, h1, h2, h3, h4, h5, h6⟩
  · exact .inl h2
  · exact .inr ⟨g, 0, cap, h1, h2, h3, h4, fun j u hu => by rw [Nat.zero_add]; exact h5 j u hu, fun j hj => by rw [Nat.zero_add]; exact h6 j hj⟩
theorem OwnsO.lt (h : OwnsO w B sz v n xs) : ∀ k, v.ownBlock = some k → B ≤ k ∧ k < w.heap.size := by
  intro k hk
  rcases h.2 with ⟨rfl, _⟩ | ⟨g, o, cap, rfl, hb, hg, _⟩
  · simp [Value.ownBlock] at hk
  · simp [Value.ownBlock] at hk
    subst hk
    exact ⟨hb, hg⟩
theorem OwnsO.mono {B' : Nat} (h : OwnsO w B sz v n xs) (hb : B' ≤ B) : OwnsO w B' sz v n xs := by
  refine ⟨h.1, ?_⟩
  rcases h.2 with h2 | ⟨g, o, cap, h1, h2, h3⟩
  · exact .inl h2
  · exact .inr ⟨g, o, cap, h1, Nat.le_trans hb h2, h3⟩
theorem OwnsO.same (h : OwnsO w B sz v n xs) (hs : w.heap.size ≤ w'.heap.size) (hk : ∀ k, v.ownBlock = some k → w'.heap[k]? = w.heap[k]?) : OwnsO w' B sz v n xs := by
  refine ⟨h.1, ?_⟩
  rcases h.2 with h2 | ⟨g, o, cap, rfl, h2, h3, h4, h5, h6⟩
  · exact .inl h2
  · have hg := hk g rfl
    refine .inr ⟨g, o, cap, rfl, h2, by omega, h4, fun j u hu => ?_, fun j hj => ?_⟩
    · rw [World.cell?_of_block (w := w) (by exact hg)]; exact h5 j u hu
    · rw [World.cell?_of_block (w := w) (by exact hg), World.frozen?_of_block (w := w) (by exact hg)]; exact h6 j hj
theorem OwnsO.below (h : OwnsO w B sz v n xs) (hb : Below w.heap.size w w') : OwnsO w' B sz v n xs :=
  h.same hb.size fun k hk => hb.block k (h.lt k hk).2
theorem OwnsO.turned {S : Nat → Prop} (h : OwnsO w B sz v n xs) (ht : Turned S w w') (hS : ∀ k, v.ownBlock = some k → ¬ S k) : OwnsO w' B sz v n xs :=
  h.same ht.size fun k hk => ht.block k (h.lt k hk).2 (hS k hk)
theorem OwnsO.setOther (h : OwnsO w B sz v n xs) {b j : Nat} (u : Value) (hb : v.ownBlock ≠ some b) : OwnsO (w.setCell ⟨b, j, none⟩ u) B sz v n xs :=
  h.same (by simp [World.setCell]) (fun k hk => Below.heap_setCell _ _ _ _ (by intro e; subst e; exact hb hk))
theorem stab_ownsO : Stab (fun w' => OwnsO w' B sz v n xs) := fun _ _ h hb => h.below hb
/-- What it is, and how it reads. -/
theorem OwnsO.sl (h : OwnsO w B sz v n xs) : ∃ p cap, v = .slice p n cap ∧ n ≤ cap ∧ (p = none → n = 0 ∧ cap = 0) ∧ Sl w p n sz (fun j => xs[j]?.getD undef) ∧
    ∀ ad, p = some ad → ad.block < w.heap.size ∧ ∀ j u, xs[j]? = some u → w.cell? (ad.add j) = some u := by
  rcases h.2 with ⟨rfl, rfl⟩ | ⟨g, o, cap, rfl, h2, h3, h4, h5, h6⟩
  · exact ⟨none, 0, rfl, Nat.le_refl _, fun _ => ⟨rfl, rfl⟩, .inl rfl, fun _ h => by cases h⟩
  · refine ⟨_, cap, rfl, h4, fun h => (by cases h), Or.inr ⟨g, o, rfl, h3, fun j hj => ?_⟩, fun ad had => ?_⟩
    · have hl : j < xs.length := by rw [h.1]; exact hj
      exact h5 j _ (by simp [hl])
    · obtain rfl : ad = ⟨g, o, none⟩ := by simpa using had.symm
      refine ⟨h3, fun j u hu => ?_⟩
      have hadd : (⟨g, o, none⟩ : Addr).add j = ⟨g, o + j, none⟩ := by unfold Addr.add; split <;> simp_all
      rw [hadd]
      exact h5 j u hu
theorem OwnsO.src (h : OwnsO w B sz v n xs) : ∃ p c, v = .slice p n c ∧ xs.length = n * sz ∧ (p = none → n = 0 ∧ c = 0) ∧ ∀ ad, p = some ad → ad.block < w.heap.size ∧ ∀ j u, xs[j]? = some u → w.cell? (ad.add j) = some u := by
  obtain ⟨p, cap, h1, _, h3, _, h5⟩ := h.sl
  exact ⟨p, cap, h1, h.1, h3, h5⟩
theorem OwnsO.some_of (h : OwnsO w B sz v n xs) (hn : 0 < n) : ∃ g o cap, v = .slice (some ⟨g, o, none⟩) n cap ∧ B ≤ g ∧ g < w.heap.size ∧ n ≤ cap ∧ (∀ j u, xs[j]? = some u → w.cell? ⟨g, o + j, none⟩ = some u) ∧ w.there g o (cap * sz) := by
  rcases h.2 with ⟨_, h2⟩ | ⟨g, o, cap, h1, h2, h3, h4, h5, h6⟩
  · omega
  · exact ⟨g, o, cap, h1, h2, h3, h4, h5, h6⟩
/-- What lies in a row of which some cells were put anew. -/
theorem OwnsO.putAt {g o cap : Nat} {p : Option Addr} (h : OwnsO w B sz (.slice p n cap) n xs) (hg : p = some ⟨g, o, none⟩) (d : Nat) (us : List Value) (m : Nat) (hm : m ≤ cap) (hu : d + us.length ≤ cap * sz)
    (xs' : List Value) (hl : xs'.length = m * sz) (hx : ∀ i, i < m * sz → xs'[i]? = if d ≤ i ∧ i < d + us.length then us[i - d]? else xs[i]?) :
    OwnsO (w.setCells g (o + d) us) B sz (.slice (some ⟨g, o, none⟩) m cap) m xs' := by
  subst hg
  refine ⟨hl, ?_⟩
  rcases h.2 with ⟨h1, h2⟩ | ⟨g', o', cap', h1, h2, h3, h4, h5, h6⟩
  · simp at h1
  · simp only [Value.slice.injEq, Option.some.injEq, Addr.mk.injEq, and_true, true_and] at h1
    obtain ⟨⟨rfl, rfl⟩, rfl⟩ := h1
    refine .inr ⟨g, o, cap, rfl, h2, Nat.lt_of_lt_of_le h3 (below_setCells g us (o + d) (Below.refl g w)).size, hm, fun i u hi => ?_, fun i hi => ⟨?_, ?_⟩⟩
    · have hil : i < m * sz := by rw [← hl]; exact (List.getElem?_eq_some_iff.1 hi).1
      rw [hx i hil] at hi
      by_cases hin : d ≤ i ∧ i < d + us.length
      · rw [if_pos hin] at hi
        have hlt : i - d < us.length := by omega
        have := World.cell?_setCells_in g us (o + d) w (fun k hk => by rw [Nat.add_assoc]; exact (h6 _ (by omega)).1) (i - d) hlt
        rw [show o + d + (i - d) = o + i by omega] at this
        rw [this, ← hi, List.getElem?_eq_getElem hlt]
      · rw [if_neg hin] at hi
        rw [World.cell?_setCells_out g us _ w ⟨g, o + i, none⟩ (fun _ _ => by show o + i < _ ∨ _ ≤ o + i; omega)]
        exact h5 i u hi
    · exact isSome_setCells _ _ _ _ _ (h6 i hi).1
    · rw [World.frozen?_setCells]; exact (h6 i hi).2
/-- The first element put anew, and left behind. -/
theorem OwnsO.tail {g o cap : Nat} (h : OwnsO w B sz (.slice (some ⟨g, o, none⟩) (n + 1) cap) (n + 1) xs) (us : List Value) (hu : us.length = sz) :
    OwnsO (w.setCells g o us) B sz (.slice (some ⟨g, o + sz, none⟩) n (cap - 1)) n (xs.drop sz) := by
  have hl := h.1
  rw [Nat.add_mul, Nat.one_mul] at hl
  refine ⟨by rw [List.length_drop]; omega, ?_⟩
  rcases h.2 with ⟨h1, h2⟩ | ⟨g', o', cap', h1, h2, h3, h4, h5, h6⟩
  · simp at h1
  · simp only [Value.slice.injEq, Option.some.injEq, Addr.mk.injEq, and_true, true_and] at h1
    obtain ⟨⟨rfl, rfl⟩, rfl⟩ := h1
    have hc : (cap - 1) * sz + sz = cap * sz := by
      rw [← Nat.succ_mul]
      congr 1
      omega
    refine .inr ⟨g, o + sz, cap - 1, rfl, h2, Nat.lt_of_lt_of_le h3 (below_setCells g us o (Below.refl g w)).size, by omega, fun j u hj => ?_, fun j hj => ⟨?_, ?_⟩⟩
    · rw [List.getElem?_drop] at hj
      rw [World.cell?_setCells_out g us _ w ⟨g, o + sz + j, none⟩ (fun _ _ => by show o + sz + j < _ ∨ _ ≤ o + sz + j; omega), Nat.add_assoc]
      exact h5 _ u hj
    · have := h6 (sz + j) (by omega)
      rw [← Nat.add_assoc] at this
      exact isSome_setCells _ _ _ _ _ this.1
    · have := h6 (sz + j) (by omega)
      rw [← Nat.add_assoc] at this
      rw [World.frozen?_setCells]; exact this.2
theorem OwnsO.void {g o : Nat} {us : List Value} (hg : B ≤ g) (hgw : g < w.heap.size) : OwnsO (w.setCells g o us) B sz (.slice (some ⟨g, o, none⟩) 0 0) 0 [] :=
  ⟨by simp, .inr ⟨g, o, 0, rfl, hg, Nat.lt_of_lt_of_le hgw (below_setCells g us o (Below.refl g w)).size, Nat.le_refl _, fun j u hu => by simp at hu, fun j hj => by simp at hj⟩⟩
end

theorem run_append_O {P : Program} (w : World) (B : Nat) (t ty e : TypeId) (i : TypeInfo) (z : Value) (size bytes : Nat) (ht : P.underlying t = some (.slice e)) (hi : P.info? e = some i) (hz : i.zero = some z)
    (hsize : i.size = size) (hby : i.bytes = bytes) (hzs : z.cells.size = size) (hsz : 0 < size)
    (v : Value) (n : Nat) (xs : List Value) (hown : OwnsO w B size v n xs)
    (ad : Addr) (m c : Nat) (news : List Value) (hl : news.length = m * size) (hnews : ∀ j u, news[j]? = some u → w.cell? (ad.add j) = some u) (h1 : ∀ u ∈ news, u.oneCell' = true)
    (h63 : n + m ≤ maxLen) (hbytes : (n + m) * bytes ≤ 140737488355328) (hB : B ≤ w.heap.size) :
    ∃ v' w', (Builtin.append_ #[t, t] ty #[v, .slice (some ad) m c]).run P w = .ok v' w' ∧ OwnsO w' B size v' (n + m) (xs ++ news) ∧ w.grownBy w' v.ownBlock ∧ (v'.ownBlock = v.ownBlock ∨ ∀ k, v'.ownBlock = some k → w.heap.size ≤ k) := by
  rcases hown.2 with ⟨rfl, rfl⟩ | ⟨g, o, cap, rfl, hb, hg, hnc, hx, hw⟩
  · obtain rfl : xs = [] := List.eq_nil_of_length_eq_zero (by simpa using hown.1)
    obtain ⟨v', w', hrun, r1, r2, _⟩ := run_append_own (P := P) w w.heap.size t ty e i z size bytes ht hi hz hsize hby hzs hsz (.slice none 0 0) 0 [] (World.ownsRow_nil w _ e size) ad m c news hl hnews h1 h63 hbytes (Nat.le_refl _)
    exact ⟨v', w', hrun, (owns_of_row r1).O.mono hB, r2, .inr (fun k hk => ((owns_of_row r1).lt k hk).1)⟩
  · by_cases hr : n + m ≤ cap
    · have hspare : ∀ j, j < news.length → (w.cell? ⟨g, o + n * size + j, none⟩).isSome = true ∧ w.frozen? ⟨g, o + n * size + j, none⟩ = false := fun j hj => by
        have h2 : (n + m) * size ≤ cap * size := Nat.mul_le_mul_right _ hr
        rw [Nat.add_mul] at h2
        rw [Nat.add_assoc]
        exact hw _ (by omega)
      have hrun := run_append_room_cells (P := P) w t ty e i ht hi g o n cap ad m c news (by rw [hsize]; exact hl) hnews h1 hr (by rw [hsize]; exact fun j hj => (hspare j hj).1) (by rw [hsize]; exact fun j hj => (hspare j hj).2)
      rw [hsize] at hrun
      refine ⟨_, _, hrun, ⟨by rw [List.length_append, hown.1, hl, Nat.add_mul], .inr ⟨g, o, cap, rfl, hb, ?_, hr, fun j u hu => ?_, fun j hj => ⟨?_, ?_⟩⟩⟩, ?_, .inl rfl⟩
      · have := (below_setCells g news (o + n * size) (Below.refl g w)).size
        omega
      · by_cases hj : j < n * size
        · rw [List.getElem?_append_left (by rw [hown.1]; exact hj)] at hu
          rw [World.cell?_setCells_out g news _ w ⟨g, o + j, none⟩ (fun _ _ => .inl (by simp; omega))]
          exact hx j u hu
        · rw [List.getElem?_append_right (by rw [hown.1]; omega), hown.1] at hu
          have hlt := (List.getElem?_eq_some_iff.1 hu).1
          have := World.cell?_setCells_in g news (o + n * size) w (fun j hj => (hspare j hj).1) (j - n * size) hlt
          rw [show o + n * size + (j - n * size) = o + j by omega] at this
          rw [this, ← hu, List.getElem?_eq_getElem hlt]
      · exact isSome_setCells _ _ _ _ _ (hw j hj).1
      · rw [World.frozen?_setCells]; exact (hw j hj).2
      · have hbl := below_setCells g news (o + n * size) (Below.refl g w)
        refine ⟨hbl.os, hbl.tape, hbl.output, hbl.size, fun k hk hne => ?_⟩
        exact World.heap_setCells_other w g _ _ hk (fun h => hne (by rw [h]; rfl))
    · obtain ⟨v', w', hrun, r1, r2⟩ := run_append_arg_grows (P := P) w t ty e i z size bytes ht hi hz hsize hby hzs hsz ⟨g, o, none⟩ n cap xs hown.1 (fun j u hu => by
        have hadd : (⟨g, o, none⟩ : Addr).add j = ⟨g, o + j, none⟩ := by unfold Addr.add; split <;> simp_all
        rw [hadd]; exact hx j u hu) ad m c news hl hnews (by omega) h63 hbytes
      exact ⟨v', w', hrun, (owns_of_row r1).O.mono hB, ⟨r2.os, r2.tape, r2.output, r2.size, fun k hk _ => r2.block k hk (by simp)⟩, .inr (fun k hk => ((owns_of_row r1).lt k hk).1)⟩

section
variable {P : Program} {ops : Array Oper} {rest : List Oper} {o : Oper} {a : Act} {w : World} {Q : Exit → Act → World → Prop}
theorem wpList_append_O (hgd : o.guard = none) (s x : Operand) (t : TypeId) (ho : o.op = .call { callee := .builtin .append, args := #[s, x], argTypes := #[t, t] })
    (w0 : World) (cs : Array Value) (T : TypeId) (hw : w = w0.alloc (.cells cs T)) (m : Nat)
    (B : Nat) (e : TypeId) (z : Value) (size bytes : Nat) (ht : P.underlying t = some (.slice e)) (hi : (P.info? e).map (fun i => (i.zero, i.size, i.bytes)) = some (some z, size, bytes)) (hzs : z.cells.size = size) (hsz : 0 < size)
    (v : Value) (n : Nat) (xs : List Value) (hs : a.eval s = v) (hown : OwnsO w0 B size v n xs)
    (hx : a.eval x = .slice (some ⟨w0.heap.size, 0, none⟩) m m) (hcs : cs.size = m * size) (h1 : ∀ u ∈ cs.toList, u.oneCell' = true)
    (h63 : n + m ≤ maxLen) (hbytes : (n + m) * bytes ≤ 140737488355328) (hB : B ≤ w0.heap.size)
    (h : ∀ v' w', OwnsO w' B size v' (n + m) (xs ++ cs.toList) → w0.grownBy w' v.ownBlock → Below B w0 w' → (v'.ownBlock = v.ownBlock ∨ ∀ k, v'.ownBlock = some k → w0.heap.size ≤ k) → wpList P ops Q rest (a.put o.dst v') w') : wpList P ops Q (o :: rest) a w := by
  subst hw
  refine wpList_plain hgd fun K hK => ?_
  have hb1 : Below w0.heap.size w0 (w0.alloc (.cells cs T)) := below1 _ _
  have hown1 := hown.below hb1
  obtain ⟨i, hi1, hi2, hi3, hi4⟩ := info_parts hi
  obtain ⟨v', w', hr, h2, h3, h4⟩ := run_append_O (P := P) (w0.alloc (.cells cs T)) B t o.type e i z size bytes ht hi1 hi2 hi3 hi4 hzs hsz v n xs hown1 ⟨w0.heap.size, 0, none⟩ m m cs.toList (by simpa using hcs) (fun j u hu => by
    have hadd : (⟨w0.heap.size, 0, none⟩ : Addr).add j = ⟨w0.heap.size, j, none⟩ := by unfold Addr.add; split <;> simp_all
    rw [hadd]
    exact (cell_of_row _ w0.heap.size j _ T (0, 0) (heap_alloc_at _ _ _ rfl)).trans (by simpa using hu)) h1 h63 hbytes (Nat.le_trans hB hb1.size)
  unfold Oper.wp execOp
  simp only [ho, resolve, invoke, builtin, Sem.run_bind, Sem.run_pure, Result.andThen_ok, List.map_toArray, List.map_cons, List.map_nil, hs, hx, hr]
  exact hK _ _ (h v' w' h2 (grown_trans (World.grownBy_alloc w0 _ _) h3) ((hb1.mono hB).grown h3 (Nat.le_trans hB hb1.size) (fun k hk => (hown.lt k hk).1)) (h4.imp id (fun h k hk => Nat.le_trans hb1.size (h k hk))))
end
end Go.Proofs.Ytapgcbjlgekpeaa
