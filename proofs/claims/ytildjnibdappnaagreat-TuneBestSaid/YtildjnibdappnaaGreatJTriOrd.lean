/- Layer 44, three texts in one (XMany, XTri5, XTri6: a claim holds at most 60 texts): rows made in any order; which of two results is better. -/
import Derived.Test.YtildjnibdappnaaGreatJTri4
import Derived.Deep.CutRange
namespace Go.Proofs.YtildjnibdappnaaGreat
open Go.ChangeShapes Go.WideShapes Go.ChangeAt Go.RowKit

/-- Block X holds a row of m cells: this one, if one is told. -/
def RN (T : TypeId) (m : Nat) (X : Nat) (o : Option (Array Value)) (w : World) : Prop := ∃ cs, w.heap[X]? = some (.cells cs T (0, 0)) ∧ cs.size = m ∧ ∀ a, o = some a → cs = a
section
variable {T : TypeId} {m X : Nat} {o : Option (Array Value)} {w w' : World} {bs : List (Nat × Obj)} {e e' : List (Option (Nat × Option (Array Value)))}
theorem RN.keep (h : RN T m X o w) (hb : Below w.heap.size w w') : RN T m X o w' := by
  obtain ⟨cs, h, hz, ho⟩ := h
  exact ⟨cs, (hb.block _ (lt_of_heap h)).trans h, hz, ho⟩
theorem RN.lt (h : RN T m X o w) : X < w.heap.size := by
  obtain ⟨cs, h, _⟩ := h
  exact lt_of_heap h
theorem RN.any (h : RN T m X o w) : RN T m X none w := by
  obtain ⟨cs, h, hz, _⟩ := h
  exact ⟨cs, h, hz, fun _ h => by cases h⟩
theorem RN.new (cs : Array Value) (hz : cs.size = m) : RN T m w.heap.size none (w.alloc (.cells cs T)) := ⟨cs, heap_alloc_at _ _ _ rfl, hz, fun _ h => by cases h⟩
theorem RN.put (h : RN T m X o w) (a : Array Value) (hz : a.size = m) : RN T m X (some a) (w.setRow X a) := by
  obtain ⟨cs, h, _⟩ := h
  exact ⟨a, setRow_heap _ _ _ _ _ _ h, hz, fun _ h => Option.some.inj h⟩
theorem RN.other (h : RN T m X o w) (Y : Nat) (hne : X ≠ Y) (a : Array Value) : RN T m X o (w.setRow Y a) := by
  obtain ⟨cs, h, hz, ho⟩ := h
  exact ⟨cs, (setRow_other w Y X a hne).trans h, hz, ho⟩
theorem Mem.outRow (h : Mem w w' bs) (X : Nat) (hX : ∀ (i b : Nat) (o : Obj), bs[i]? = some (b, o) → b < X) (hge : w.heap.size ≤ X) (a : Array Value) : Mem w (w'.setRow X a) bs :=
  ⟨below_setRow h.below hge a, fun i b o hi => (setRow_other w' X b a (by have := hX i b o hi; omega)).trans (h.has i b o hi), h.apart, h.own⟩

/-- The rows, the blocks of before, which all lie below s. -/
structure Many (w : World) (bs : List (Nat × Obj)) (s : Nat) (T : TypeId) (m : Nat) (e : List (Option (Nat × Option (Array Value)))) (w' : World) : Prop where
  mem : Mem w w' bs
  size : s ≤ w'.heap.size
  row : ∀ (i X : Nat) (o : Option (Array Value)), e[i]? = some (some (X, o)) → s ≤ X ∧ RN T m X o w'
  ne : ∀ (i j X Y : Nat) (o o' : Option (Array Value)), i ≠ j → e[i]? = some (some (X, o)) → e[j]? = some (some (Y, o')) → X ≠ Y
variable {s : Nat}
theorem stab_many : Stab (Many w bs s T m e) := fun _ _ h hb => ⟨h.mem.call hb, Nat.le_trans h.size hb.size, fun i X o he => ⟨(h.row i X o he).1, (h.row i X o he).2.keep hb⟩, h.ne⟩
theorem Many.start (h : Mem w w' bs) (hs : s ≤ w'.heap.size) (he : ∀ i : Nat, e[i]? = some none ∨ e[i]? = none) : Many w bs s T m e w' :=
  ⟨h, hs, fun i X o h => by rcases he i with h' | h' <;> (rw [h] at h'; cases h'), fun i j X Y o o' _ h => by rcases he i with h' | h' <;> (rw [h] at h'; cases h')⟩
theorem set_cases {α : Type} {l : List α} {i k : Nat} {u v : α} (h : (l.set i u)[k]? = some v) : (k = i ∧ v = u) ∨ (k ≠ i ∧ l[k]? = some v) := by
  rw [List.getElem?_set] at h
  split at h
  · rename_i e
    split at h
    · exact .inl ⟨e.symm, (Option.some.inj h).symm⟩
    · cases h
  · rename_i e
    exact .inr ⟨fun h => e h.symm, h⟩
theorem Many.alloc (h : Many w bs s T m e w') (i : Nat) (cs : Array Value) (hz : cs.size = m) : Many w bs s T m (e.set i (some (w'.heap.size, none))) (w'.alloc (.cells cs T)) := by
  refine ⟨h.mem.call (below1 _ _), Nat.le_trans h.size (below1 _ _).size, fun k X o he => ?_, fun k l X Y o o' hkl he he' => ?_⟩
  · rcases set_cases he with ⟨_, h2⟩ | ⟨_, h2⟩
    · cases h2
      exact ⟨h.size, RN.new cs hz⟩
    · exact ⟨(h.row _ _ _ h2).1, (h.row _ _ _ h2).2.keep (below1 _ _)⟩
  · rcases set_cases he with ⟨h1, h2⟩ | ⟨h1, h2⟩ <;> rcases set_cases he' with ⟨h3, h4⟩ | ⟨h3, h4⟩
    · omega
    · cases h2
      have := (h.row _ _ _ h4).2.lt
      omega
    · cases h4
      have := (h.row _ _ _ h2).2.lt
      omega
    · exact h.ne _ _ _ _ _ _ hkl h2 h4
theorem Many.store (h : Many w bs s T m e w') (hbs : ∀ (i b : Nat) (o : Obj), bs[i]? = some (b, o) → b < s) (hws : w.heap.size ≤ s) (i : Nat) {X : Nat} {o : Option (Array Value)} (hi : e[i]? = some (some (X, o))) (a : Array Value) (hz : a.size = m) :
    Many w bs s T m (e.set i (some (X, some a))) (w'.setRow X a) := by
  obtain ⟨g1, g2⟩ := h.row i X o hi
  refine ⟨h.mem.outRow X (fun k b o hk => by have := hbs k b o hk; omega) (by omega) a, Nat.le_trans h.size (below_setRow (Below.refl 0 w') (Nat.zero_le _) a).size, fun k Y o' he => ?_, fun k l Y Z o' o'' hkl he he' => ?_⟩
  · rcases set_cases he with ⟨_, h2⟩ | ⟨h1, h2⟩
    · cases h2
      exact ⟨g1, g2.put a hz⟩
    · exact ⟨(h.row _ _ _ h2).1, (h.row _ _ _ h2).2.other X (h.ne _ _ _ _ _ _ h1 h2 hi) a⟩
  · rcases set_cases he with ⟨h1, h2⟩ | ⟨h1, h2⟩ <;> rcases set_cases he' with ⟨h3, h4⟩ | ⟨h3, h4⟩
    · omega
    · cases h2
      exact h.ne _ _ _ _ _ _ (fun e => h3 e.symm) hi h4
    · cases h4
      exact h.ne _ _ _ _ _ _ h1 h2 hi
    · exact h.ne _ _ _ _ _ _ hkl h2 h4
/-- Less told: not made, or not written. -/
theorem Many.less {i : Nat} {u : Option (Nat × Option (Array Value))} (h : Many w bs s T m (e.set i u) w') (hi : e[i]? = some none ∨ ∃ X a, e[i]? = some (some (X, none)) ∧ u = some (X, some a)) : Many w bs s T m e w' := by
  have hil : i < e.length := by
    rcases hi with h | ⟨_, _, h, _⟩ <;> exact (List.getElem?_eq_some_iff.1 h).1
  have key : ∀ (k X : Nat) (o : Option (Array Value)), e[k]? = some (some (X, o)) → ∃ o', (e.set i u)[k]? = some (some (X, o')) ∧ (o' = o ∨ o = none) := by
    intro k X o hk
    by_cases hki : k = i
    · subst hki
      rcases hi with hi | ⟨Y, a, hi, rfl⟩
      · rw [hi] at hk; cases hk
      · rw [hi] at hk
        cases hk
        exact ⟨some a, by rw [List.getElem?_set_self hil], .inr rfl⟩
    · exact ⟨o, by rw [List.getElem?_set_ne (fun e => hki e.symm)]; exact hk, .inl rfl⟩
  refine ⟨h.mem, h.size, fun k X o hk => ?_, fun k l X Y o o' hkl hk hl => ?_⟩
  · obtain ⟨o', h1, h2⟩ := key k X o hk
    obtain ⟨h3, h4⟩ := h.row k X o' h1
    rcases h2 with rfl | rfl
    · exact ⟨h3, h4⟩
    · exact ⟨h3, h4.any⟩
  · obtain ⟨p, h1, _⟩ := key k X o hk
    obtain ⟨p', h2, _⟩ := key l Y o' hl
    exact h.ne k l X Y p p' hkl h1 h2
theorem Many.old (h : Many w bs s T m e w') (i : Nat) {X : Nat} {o : Option (Array Value)} (hi : e[i]? = some (some (X, o))) : ∃ cs, w'.heap[X]? = some (.cells cs T (0, 0)) ∧ cs.size = m := by
  obtain ⟨_, cs, h1, h2, _⟩ := h.row i X o hi
  exact ⟨cs, h1, h2⟩
theorem Many.heap (h : Many w bs s T m e w') (i : Nat) {X : Nat} {a : Array Value} (hi : e[i]? = some (some (X, some a))) : w'.heap[X]? = some (.cells a T (0, 0)) := by
  obtain ⟨_, cs, h1, _, h2⟩ := h.row i X _ hi
  rw [h1, h2 a rfl]
end

/-- Which is better. -/
def Tri.cmp (C T x y C2 T2 x2 y2 : Int) : Int := if y ≠ y2 then Adv.sgn y y2 else if x ≠ x2 then Adv.sgn x x2 else if C ≠ C2 then Adv.sgn C C2 else Adv.sgn T T2

set_option maxRecDepth 100000 in
theorem trial_rank (p : Option Addr) (n c : Nat) (C T a b x y : Int) (w : World) : Calls Tryz.prog 36 #[.agg #[.slice p n c, .int .i64 C, .int .i64 T, .int .i64 a, .int .i64 b, .int .i64 x, .int .i64 y]] w fun e w' => e = .returned (.agg #[.int .i64 y, .int .i64 x, .int .i64 C, .int .i64 T]) ∧ Below w.heap.size w w' := by
  go_enter Tryz.func36, Tryz.ntmps36
  go_wp2_with ((with_reducible refine wpList_store_rowAs rfl 70 _ _ rfl (w.heap.size + 1) #[.int .i64 y, .int .i64 x, .int .i64 C, .int .i64 T] ?_ ?_ 70 #[.int .i64 0, .int .i64 0, .int .i64 0, .int .i64 0] 4 ?_ (by kernel_rfl) rfl rfl (by simp [Value.oneCell']) ?_); exact rfl; exact rfl; exact (by first | (with_reducible exact heap_1_0 _ _) | (with_reducible exact heap_2_0 _ _ _) | (with_reducible exact heap_2_1 _ _ _) | (with_reducible exact heap_3_0 _ _ _ _) | (with_reducible exact heap_3_1 _ _ _ _) | (with_reducible exact heap_3_2 _ _ _ _) | (with_reducible exact heap_4_0 _ _ _ _ _) | (with_reducible exact heap_4_1 _ _ _ _ _) | (with_reducible exact heap_4_2 _ _ _ _ _) | (with_reducible exact heap_4_3 _ _ _ _ _) | (with_reducible exact heap_5_0 _ _ _ _ _ _) | (with_reducible exact heap_5_1 _ _ _ _ _ _) | (with_reducible exact heap_5_2 _ _ _ _ _ _) | (with_reducible exact heap_5_3 _ _ _ _ _ _) | (with_reducible exact heap_5_4 _ _ _ _ _ _) | (with_reducible exact heap_6_0 _ _ _ _ _ _ _) | (with_reducible exact heap_6_1 _ _ _ _ _ _ _) | (with_reducible exact heap_6_2 _ _ _ _ _ _ _) | (with_reducible exact heap_6_3 _ _ _ _ _ _ _) | (with_reducible exact heap_6_4 _ _ _ _ _ _ _) | (with_reducible exact heap_6_5 _ _ _ _ _ _ _) | simp only [heap_alloc_past, heap_alloc_at, World.size_alloc, Nat.add_assoc, Nat.reduceAdd, Nat.lt_add_right_iff_pos, Nat.add_lt_add_iff_left, Nat.reduceLT, Nat.zero_lt_succ, Nat.lt_add_one]); (first | rw [row_1_0] | rw [row_2_0] | rw [row_2_1] | rw [row_3_0] | rw [row_3_1] | rw [row_3_2] | rw [row_4_0] | rw [row_4_1] | rw [row_4_2] | rw [row_4_3] | rw [row_5_0] | rw [row_5_1] | rw [row_5_2] | rw [row_5_3] | rw [row_5_4] | rw [row_6_0] | rw [row_6_1] | rw [row_6_2] | rw [row_6_3] | rw [row_6_4] | rw [row_6_5] | simp only [setRow_alloc_past, setRow_alloc_at, World.size_alloc, Nat.add_assoc, Nat.reduceAdd, Nat.lt_add_right_iff_pos, Nat.add_lt_add_iff_left, Nat.reduceLT, Nat.zero_lt_succ, Nat.lt_add_one]))
  exact bodyPost_ret (results_cell_row rfl _ _ (w.heap.size + 1) 70 #[.int .i64 y, .int .i64 x, .int .i64 C, .int .i64 T] (0, 0) _ rfl (by first | (with_reducible exact heap_1_0 _ _) | (with_reducible exact heap_2_0 _ _ _) | (with_reducible exact heap_2_1 _ _ _) | (with_reducible exact heap_3_0 _ _ _ _) | (with_reducible exact heap_3_1 _ _ _ _) | (with_reducible exact heap_3_2 _ _ _ _) | (with_reducible exact heap_4_0 _ _ _ _ _) | (with_reducible exact heap_4_1 _ _ _ _ _) | (with_reducible exact heap_4_2 _ _ _ _ _) | (with_reducible exact heap_4_3 _ _ _ _ _) | (with_reducible exact heap_5_0 _ _ _ _ _ _) | (with_reducible exact heap_5_1 _ _ _ _ _ _) | (with_reducible exact heap_5_2 _ _ _ _ _ _) | (with_reducible exact heap_5_3 _ _ _ _ _ _) | (with_reducible exact heap_5_4 _ _ _ _ _ _) | (with_reducible exact heap_6_0 _ _ _ _ _ _ _) | (with_reducible exact heap_6_1 _ _ _ _ _ _ _) | (with_reducible exact heap_6_2 _ _ _ _ _ _ _) | (with_reducible exact heap_6_3 _ _ _ _ _ _ _) | (with_reducible exact heap_6_4 _ _ _ _ _ _ _) | (with_reducible exact heap_6_5 _ _ _ _ _ _ _) | simp only [heap_alloc_past, heap_alloc_at, World.size_alloc, Nat.add_assoc, Nat.reduceAdd, Nat.lt_add_right_iff_pos, Nat.add_lt_add_iff_left, Nat.reduceLT, Nat.zero_lt_succ, Nat.lt_add_one]) Tryz.underlying70 rfl (by kernel_rfl)) rfl ⟨rfl, below2 _ _ _⟩

theorem ref44_less (a b : Int) (w : World) : Calls Tryz.prog 62 #[.int .i64 a, .int .i64 b] w fun e w' => e = .returned (.int .i64 (Adv.sgn a b)) ∧ w = w' := by
  by_cases h1 : a < b
  · have HE : Hid (Adv.sgn a b = -1) := by show _ = _; unfold Adv.sgn; rw [if_pos h1]
    go_enter Tryz.func62, Tryz.ntmps62
    go_wp2
    go_ret
    exact ⟨ret_int HE.out.symm, rfl⟩
  · by_cases h2 : b < a
    · have HE : Hid (Adv.sgn a b = 1) := by show _ = _; unfold Adv.sgn; rw [if_neg h1, if_pos h2]
      go_enter Tryz.func62, Tryz.ntmps62
      go_wp2
      go_ret
      exact ⟨ret_int HE.out.symm, rfl⟩
    · have HE : Hid (Adv.sgn a b = 0) := by show _ = _; unfold Adv.sgn; rw [if_neg h1, if_neg h2]
      go_enter Tryz.func62, Tryz.ntmps62
      go_wp2
      go_ret
      exact ⟨ret_int HE.out.symm, rfl⟩

set_option maxHeartbeats 2000000 in
set_option maxRecDepth 100000 in
theorem ref44_cmp (p p2 : Option Addr) (n c n2 c2 : Nat) (C T a b x y C2 T2 a2 b2 x2 y2 : Int) (w : World) : Calls Tryz.prog 35 #[.agg #[.slice p n c, .int .i64 C, .int .i64 T, .int .i64 a, .int .i64 b, .int .i64 x, .int .i64 y], .agg #[.slice p2 n2 c2, .int .i64 C2, .int .i64 T2, .int .i64 a2, .int .i64 b2, .int .i64 x2, .int .i64 y2]] w fun e w' => e = .returned (.int .i64 (Tri.cmp C T x y C2 T2 x2 y2)) ∧ Below w.heap.size w w' := by
  obtain ⟨r, er⟩ : ∃ r, r = Tri.cmp C T x y C2 T2 x2 y2 := ⟨_, rfl⟩
  rw [← er]
  unfold Tri.cmp at er
  by_cases h1 : y = y2
  · have d1 : (y != y2) = false := by simp [h1]
    rw [if_neg (fun h => h h1)] at er
    by_cases h2 : x = x2
    · have d2 : (x != x2) = false := by simp [h2]
      rw [if_neg (fun h => h h2)] at er
      by_cases h3 : C = C2
      · have d3 : (C != C2) = false := by simp [h3]
        rw [if_neg (fun h => h h3)] at er
        have HE := Lib.hid er
        clear er h1 h2 h3
        go_enter Tryz.func35, Tryz.ntmps35
        go_wp2_with ((with_reducible refine (ref44_less _ _ _).mono ?_); rintro e w1 ⟨rfl, rfl⟩)
        go_ret
        exact ⟨ret_int HE.out.symm, below2 _ _ _⟩
      · have d3 : (C != C2) = true := by simpa using h3
        rw [if_pos h3] at er
        have HE := Lib.hid er
        clear er h1 h2 h3
        go_enter Tryz.func35, Tryz.ntmps35
        go_wp2_with ((with_reducible refine (ref44_less _ _ _).mono ?_); rintro e w1 ⟨rfl, rfl⟩)
        go_ret
        exact ⟨ret_int HE.out.symm, below2 _ _ _⟩
    · have d2 : (x != x2) = true := by simpa using h2
      rw [if_pos h2] at er
      have HE := Lib.hid er
      clear er h1 h2
      go_enter Tryz.func35, Tryz.ntmps35
      go_wp2_with ((with_reducible refine (ref44_less _ _ _).mono ?_); rintro e w1 ⟨rfl, rfl⟩)
      go_ret
      exact ⟨ret_int HE.out.symm, below2 _ _ _⟩
  · have d1 : (y != y2) = true := by simpa using h1
    rw [if_pos h1] at er
    have HE := Lib.hid er
    clear er h1
    go_enter Tryz.func35, Tryz.ntmps35
    go_wp2_with ((with_reducible refine (ref44_less _ _ _).mono ?_); rintro e w1 ⟨rfl, rfl⟩)
    go_ret
    exact ⟨ret_int HE.out.symm, below2 _ _ _⟩

theorem arr4_eq (a b c d a2 b2 c2 d2 : Int) (w : World) : (Op.equalIn (9998 + 2) 70 (.agg #[.int .i64 a, .int .i64 b, .int .i64 c, .int .i64 d]) (.agg #[.int .i64 a2, .int .i64 b2, .int .i64 c2, .int .i64 d2])).run Tryz.prog w = .ok (a == a2 && b == b2 && c == c2 && d == d2) w := by
  have hsz : ∀ w, (sizeOf 2).run Tryz.prog w = .ok 1 w := fun w => by kernel_rfl
  have he := Tryz.underlying2
  have px : ∀ (xs : Array Value) (i : Nat) (n : Int) (w : World), xs[i]? = some (.int .i64 n) → (part 2 xs (i * 1)).run Tryz.prog w = .ok (.int .i64 n) w := fun xs i n w h => by
    simp [part, isAgg, run_underlying he, h]
  have pe : ∀ (x y : Int) (w : World), (Op.equalIn (9998 + 1) 2 (.int .i64 x) (.int .i64 y)).run Tryz.prog w = .ok (x == y) w := fun x y w => run_equalIn_int w _ _ _ _ _ _ he
  rw [Op.equalIn]
  simp only [Sem.run_bind, run_underlying Tryz.underlying70, Result.andThen_ok, hsz, Std.Legacy.Range.forIn_eq_forIn_range', Std.Legacy.Range.size, Nat.sub_zero, Nat.add_sub_cancel, Nat.div_one]
  rw [show List.range' 0 4 1 = [0, 1, 2, 3] from rfl]
  have q0 : ∀ (a b c d : Int) (w : World), (part 2 #[.int .i64 a, .int .i64 b, .int .i64 c, .int .i64 d] 0).run Tryz.prog w = .ok (.int .i64 a) w := fun a b c d w => px _ 0 a w rfl
  have q1 : ∀ (a b c d : Int) (w : World), (part 2 #[.int .i64 a, .int .i64 b, .int .i64 c, .int .i64 d] 1).run Tryz.prog w = .ok (.int .i64 b) w := fun a b c d w => px _ 1 b w rfl
  have q2 : ∀ (a b c d : Int) (w : World), (part 2 #[.int .i64 a, .int .i64 b, .int .i64 c, .int .i64 d] 2).run Tryz.prog w = .ok (.int .i64 c) w := fun a b c d w => px _ 2 c w rfl
  have q3 : ∀ (a b c d : Int) (w : World), (part 2 #[.int .i64 a, .int .i64 b, .int .i64 c, .int .i64 d] 3).run Tryz.prog w = .ok (.int .i64 d) w := fun a b c d w => px _ 3 d w rfl
  obtain ⟨r1, e1⟩ : ∃ r, (a == a2) = r := ⟨_, rfl⟩
  obtain ⟨r2, e2⟩ : ∃ r, (b == b2) = r := ⟨_, rfl⟩
  obtain ⟨r3, e3⟩ : ∃ r, (c == c2) = r := ⟨_, rfl⟩
  obtain ⟨r4, e4⟩ : ∃ r, (d == d2) = r := ⟨_, rfl⟩
  have p1 := fun w => (pe a a2 w).trans (by rw [e1])
  have p2 := fun w => (pe b b2 w).trans (by rw [e2])
  have p3 := fun w => (pe c c2 w).trans (by rw [e3])
  have p4 := fun w => (pe d d2 w).trans (by rw [e4])
  rw [e1, e2, e3, e4]
  clear e1 e2 e3 e4 pe px hsz he
  cases r1
  · simp [q0, p1]
  · cases r2
    · simp [q0, q1, p1, p2]
    · cases r3
      · simp [q0, q1, q2, p1, p2, p3]
      · cases r4 <;> simp [q0, q1, q2, q3, p1, p2, p3, p4]

/-- Block X holds a row of four: this one, if one is told. -/
def R4 (T : TypeId) (X : Nat) (o : Option (Array Value)) (w : World) : Prop := ∃ cs, w.heap[X]? = some (.cells cs T (0, 0)) ∧ cs.size = 4 ∧ ∀ a, o = some a → cs = a
theorem stab_r4 {T : TypeId} {X : Nat} {o : Option (Array Value)} : Stab (R4 T X o) := fun _ _ ⟨cs, h, hz, ho⟩ hb => ⟨cs, (hb.block _ (lt_of_heap h)).trans h, hz, ho⟩
theorem R4.lt {T : TypeId} {X : Nat} {o : Option (Array Value)} {w : World} (h : R4 T X o w) : X < w.heap.size := by
  obtain ⟨cs, h, _⟩ := h
  exact lt_of_heap h
theorem R4.any {T : TypeId} {X : Nat} {o : Option (Array Value)} {w : World} (h : R4 T X o w) : R4 T X none w := by
  obtain ⟨cs, h, hz, _⟩ := h
  exact ⟨cs, h, hz, fun _ h => by cases h⟩
theorem R4.new {T : TypeId} {w : World} (cs : Array Value) (hz : cs.size = 4) : R4 T w.heap.size none (w.alloc (.cells cs T)) := ⟨cs, heap_alloc_at _ _ _ rfl, hz, fun _ h => by cases h⟩
theorem R4.put {T : TypeId} {X : Nat} {o : Option (Array Value)} {w : World} (h : R4 T X o w) (a : Array Value) (hz : a.size = 4) : R4 T X (some a) (w.setRow X a) := by
  obtain ⟨cs, h, _⟩ := h
  exact ⟨a, setRow_heap _ _ _ _ _ _ h, hz, fun _ h => Option.some.inj h⟩
theorem R4.other {T : TypeId} {X : Nat} {o : Option (Array Value)} {w : World} (h : R4 T X o w) (Y : Nat) (hne : X ≠ Y) (a : Array Value) : R4 T X o (w.setRow Y a) := by
  obtain ⟨cs, h, hz, ho⟩ := h
  exact ⟨cs, (setRow_other w Y X a hne).trans h, hz, ho⟩

theorem arr4Size : (Tryz.prog.info? 70).map (·.size) = some 4 := by kernel_rfl

/-- Two rows of four, each made or not yet, written or not yet. -/
structure Two (w : World) (bs : List (Nat × Obj)) (T : TypeId) (e5 e6 : Option (Nat × Option (Array Value))) (w' : World) : Prop where
  mem : Mem w w' bs
  r5 : ∀ X o, e5 = some (X, o) → w.heap.size + 2 ≤ X ∧ R4 T X o w'
  r6 : ∀ X o, e6 = some (X, o) → w.heap.size + 2 ≤ X ∧ R4 T X o w'
  ne : ∀ X Y o o', e5 = some (X, o) → e6 = some (Y, o') → X ≠ Y
section
variable {w w' : World} {bs : List (Nat × Obj)} {T : TypeId} {e5 e6 : Option (Nat × Option (Array Value))}
theorem stab_two : Stab (Two w bs T e5 e6) := fun _ _ h hb => ⟨h.mem.call hb, fun X o e => ⟨(h.r5 X o e).1, stab_r4 _ _ (h.r5 X o e).2 hb⟩, fun X o e => ⟨(h.r6 X o e).1, stab_r4 _ _ (h.r6 X o e).2 hb⟩, h.ne⟩
theorem Two.big {bs : List (Nat × Obj)} {o1 o2 : Obj} (h : Two w ((w.heap.size, o1) :: (w.heap.size + 1, o2) :: bs) T e5 e6 w') : w.heap.size + 2 ≤ w'.heap.size := by
  have := h.mem.lt (i := 1) rfl
  omega
theorem Two.swap (h : Two w bs T e5 e6 w') : Two w bs T e6 e5 w' := ⟨h.mem, h.r6, h.r5, fun X Y o o' e e' => (h.ne Y X o' o e' e).symm⟩
theorem Two.alloc5 (h : Two w bs T none e6 w') (hsz : w.heap.size + 2 ≤ w'.heap.size) (cs : Array Value) (hz : cs.size = 4) : Two w bs T (some (w'.heap.size, none)) e6 (w'.alloc (.cells cs T)) :=
  ⟨h.mem.call (below1 _ _), (fun X o e => by cases e; exact ⟨hsz, R4.new cs hz⟩), fun X o e => ⟨(h.r6 X o e).1, stab_r4 _ _ (h.r6 X o e).2 (below1 _ _)⟩, (fun X Y o o' e e' => by cases e; have := (h.r6 Y o' e').2.lt; omega)⟩
theorem Two.store5 {X : Nat} {o : Option (Array Value)} (h : Two w bs T (some (X, o)) e6 w') (hbs : ∀ (i b : Nat) (o : Obj), bs[i]? = some (b, o) → b < w.heap.size + 2) (a : Array Value) (hz : a.size = 4) : Two w bs T (some (X, some a)) e6 (w'.setRow X a) := by
  obtain ⟨h1, h2⟩ := h.r5 X o rfl
  refine ⟨h.mem.outRow X (fun i b o hi => by have := hbs i b o hi; omega) (by omega) a, fun Y o' e => ?_, fun Y o' e => ⟨(h.r6 Y o' e).1, (h.r6 Y o' e).2.other X (h.ne X Y o o' rfl e).symm a⟩, fun Y Z o' o'' e e' => ?_⟩
  · cases e
    exact ⟨h1, h2.put a hz⟩
  · cases e
    exact h.ne _ _ o o'' rfl e'
theorem Two.imp5a {X : Nat} {o : Option (Array Value)} (h : Two w bs T (some (X, o)) e6 w') : Two w bs T none e6 w' := ⟨h.mem, (fun _ _ e => by cases e), h.r6, (fun _ _ _ _ e => by cases e)⟩
theorem Two.imp5s {X : Nat} {o : Option (Array Value)} (h : Two w bs T (some (X, o)) e6 w') : Two w bs T (some (X, none)) e6 w' :=
  ⟨h.mem, (fun Y o' e => by cases e; exact ⟨(h.r5 _ _ rfl).1, (h.r5 _ _ rfl).2.any⟩), h.r6, (fun Y Z o' o'' e e' => by cases e; exact h.ne _ _ o o'' rfl e')⟩
theorem Two.row5 {X : Nat} {o : Option (Array Value)} (h : Two w bs T (some (X, o)) e6 w') : ∃ cs, w'.heap[X]? = some (.cells cs T (0, 0)) ∧ cs.size = 4 := by
  obtain ⟨_, cs, h1, h2, _⟩ := h.r5 X o rfl
  exact ⟨cs, h1, h2⟩
theorem Two.heap5 {X : Nat} {a : Array Value} (h : Two w bs T (some (X, some a)) e6 w') : w'.heap[X]? = some (.cells a T (0, 0)) := by
  obtain ⟨_, cs, h1, _, h2⟩ := h.r5 X _ rfl
  rw [h1, h2 a rfl]
theorem Two.alloc6 (h : Two w bs T e5 none w') (hsz : w.heap.size + 2 ≤ w'.heap.size) (cs : Array Value) (hz : cs.size = 4) : Two w bs T e5 (some (w'.heap.size, none)) (w'.alloc (.cells cs T)) := (h.swap.alloc5 hsz cs hz).swap
theorem Two.store6 {X : Nat} {o : Option (Array Value)} (h : Two w bs T e5 (some (X, o)) w') (hbs : ∀ (i b : Nat) (o : Obj), bs[i]? = some (b, o) → b < w.heap.size + 2) (a : Array Value) (hz : a.size = 4) : Two w bs T e5 (some (X, some a)) (w'.setRow X a) := (h.swap.store5 hbs a hz).swap
theorem Two.imp6a {X : Nat} {o : Option (Array Value)} (h : Two w bs T e5 (some (X, o)) w') : Two w bs T e5 none w' := h.swap.imp5a.swap
theorem Two.imp6s {X : Nat} {o : Option (Array Value)} (h : Two w bs T e5 (some (X, o)) w') : Two w bs T e5 (some (X, none)) w' := h.swap.imp5s.swap
theorem Two.row6 {X : Nat} {o : Option (Array Value)} (h : Two w bs T e5 (some (X, o)) w') : ∃ cs, w'.heap[X]? = some (.cells cs T (0, 0)) ∧ cs.size = 4 := h.swap.row5
theorem Two.heap6 {X : Nat} {a : Array Value} (h : Two w bs T e5 (some (X, some a)) w') : w'.heap[X]? = some (.cells a T (0, 0)) := h.swap.heap5
end

set_option maxHeartbeats 4000000 in
set_option maxRecDepth 100000 in
theorem trial_cmp (p p2 : Option Addr) (n c n2 c2 : Nat) (C T a b x y C2 T2 a2 b2 x2 y2 : Int) (w : World) : Calls Tryz.prog 16 #[.agg #[.slice p n c, .int .i64 C, .int .i64 T, .int .i64 a, .int .i64 b, .int .i64 x, .int .i64 y], .agg #[.slice p2 n2 c2, .int .i64 C2, .int .i64 T2, .int .i64 a2, .int .i64 b2, .int .i64 x2, .int .i64 y2]] w fun e w' => e = .returned (.int .i64 (Tri.cmp C T x y C2 T2 x2 y2)) ∧ Below w.heap.size w w' := by
  obtain ⟨r, er⟩ : ∃ r, r = Tri.cmp C T x y C2 T2 x2 y2 := ⟨_, rfl⟩
  rw [← er]
  have ER := Lib.hid er
  clear er
  have hst : Stab (Two w [(w.heap.size, .cells #[.slice p n c, .int .i64 C, .int .i64 T, .int .i64 a, .int .i64 b, .int .i64 x, .int .i64 y] 28), (w.heap.size + 1, .cells #[.slice p2 n2 c2, .int .i64 C2, .int .i64 T2, .int .i64 a2, .int .i64 b2, .int .i64 x2, .int .i64 y2] 28)] 70 none none) := stab_two
  have hbs : ∀ (i bk : Nat) (ob : Obj), [(w.heap.size, Obj.cells #[.slice p n c, .int .i64 C, .int .i64 T, .int .i64 a, .int .i64 b, .int .i64 x, .int .i64 y] 28), (w.heap.size + 1, .cells #[.slice p2 n2 c2, .int .i64 C2, .int .i64 T2, .int .i64 a2, .int .i64 b2, .int .i64 x2, .int .i64 y2] 28)][i]? = some (bk, ob) → bk < w.heap.size + 2 := by
    intro i bk ob hi
    match i, hi with
    | 0, hi => simp at hi; omega
    | 1, hi => simp at hi; omega
  have M0 := Lib.hid (((Mem.start w).alloc (.cells #[.slice p n c, .int .i64 C, .int .i64 T, .int .i64 a, .int .i64 b, .int .i64 x, .int .i64 y] 28)).allocAs (w.heap.size + 1) (.cells #[.slice p2 n2 c2, .int .i64 C2, .int .i64 T2, .int .i64 a2, .int .i64 b2, .int .i64 x2, .int .i64 y2] 28) (by simp))
  have F1 := Lib.hid (trial_rank p n c C T a b x y)
  have F2 := Lib.hid (trial_rank p2 n2 c2 C2 T2 a2 b2 x2 y2)
  go_enter Tryz.func16, Tryz.ntmps16
  go_upto_region 1 with fail
  go_cut [5, 6] from 8 to 32 (fun s5 s6 wx => ∃ X5 X6, s5 = .pointer (some ⟨X5, 0, none⟩) ∧ s6 = .pointer (some ⟨X6, 0, none⟩) ∧ wx.heap[X5]? = some (.cells #[.int .i64 y, .int .i64 x, .int .i64 C, .int .i64 T] 70 (0, 0)) ∧ wx.heap[X6]? = some (.cells #[.int .i64 y2, .int .i64 x2, .int .i64 C2, .int .i64 T2] 70 (0, 0)) ∧ Below w.heap.size w wx)
  case first =>
    refine wp_region_E mixed [] hst ⟨M0.out.drewN 1, (fun _ _ e => by cases e), (fun _ _ e => by cases e), (fun _ _ _ _ e => by cases e)⟩ ?_
    refine wpAnyE_take 0 (v := .agg #[.slice p n c, .int .i64 C, .int .i64 T, .int .i64 a, .int .i64 b, .int .i64 x, .int .i64 y]) rfl (by kernel_rfl) (by kernel_rfl) (by kernel_rfl) (fun _ _ _ h => h) hst (EffB.run rfl rfl (fun wd hS => ?_)) (.inl (by kernel_rfl)) ?_
    · exact wp_load_row 28 _ rfl (w.heap.size) rfl 28 #[.slice p n c, .int .i64 C, .int .i64 T, .int .i64 a, .int .i64 b, .int .i64 x, .int .i64 y] (0, 0) _ (hS.mem.heap 0 rfl) Tryz.underlying28 rfl (by kernel_rfl) ⟨rfl, Below.refl _ _⟩
    simp only [act_norm]
    refine wpAnyE_take 1 (v := .agg #[.int .i64 y, .int .i64 x, .int .i64 C, .int .i64 T]) rfl (by kernel_rfl) (by kernel_rfl) (by kernel_rfl) (fun _ _ _ h => h) hst (EffB.run rfl rfl (fun wd hS => ?_)) (.inl (by kernel_rfl)) ?_
    · (go_wp2_with fail; (with_reducible refine (F1.out wd).mono ?_); rintro e w'' ⟨rfl, hb⟩; exact ⟨rfl, hb⟩)
    simp only [act_norm]
    refine wpAnyE_take 2 (v := .agg #[.slice p2 n2 c2, .int .i64 C2, .int .i64 T2, .int .i64 a2, .int .i64 b2, .int .i64 x2, .int .i64 y2]) rfl (by kernel_rfl) (by kernel_rfl) (by kernel_rfl) (fun _ _ _ h => h) hst (EffB.run rfl rfl (fun wd hS => ?_)) (.inl (by kernel_rfl)) ?_
    · exact wp_load_row 28 _ rfl ((w.heap.size + 1)) rfl 28 #[.slice p2 n2 c2, .int .i64 C2, .int .i64 T2, .int .i64 a2, .int .i64 b2, .int .i64 x2, .int .i64 y2] (0, 0) _ (hS.mem.heap 1 rfl) Tryz.underlying28 rfl (by kernel_rfl) ⟨rfl, Below.refl _ _⟩
    simp only [act_norm]
    refine wpAnyE_take 3 (v := .agg #[.int .i64 y2, .int .i64 x2, .int .i64 C2, .int .i64 T2]) rfl (by kernel_rfl) (by kernel_rfl) (by kernel_rfl) (fun _ _ _ h => h) hst (EffB.run rfl rfl (fun wd hS => ?_)) (.inl (by kernel_rfl)) ?_
    · (go_wp2_with fail; (with_reducible refine (F2.out wd).mono ?_); rintro e w'' ⟨rfl, hb⟩; exact ⟨rfl, hb⟩)
    simp only [act_norm]
    refine wpAnyE_two 4 5 rfl rfl (by kernel_rfl) rfl rfl (fun wd hS => ?_) (fun wd hS => ?_)
    · go_wp2
      refine ⟨_, Two.alloc5 hS hS.big _ rfl, stab_two, (by first | exact .inr fun _ h => h.imp5a | exact fun _ h => h.imp5a), ?_⟩
      try simp only [act_norm]
      obtain ⟨X5, hX⟩ : ∃ X, X = wd.heap.size := ⟨_, rfl⟩
      rw [← hX]
      clear hS hX
      refine wpAnyE_one 5 rfl (by kernel_rfl) rfl (fun wd hS => ?_)
      go_wp2
      refine ⟨_, Two.alloc6 hS hS.big _ rfl, stab_two, (by first | exact .inr fun _ h => h.imp6a | exact fun _ h => h.imp6a), ?_⟩
      try simp only [act_norm]
      obtain ⟨X6, hX⟩ : ∃ X, X = wd.heap.size := ⟨_, rfl⟩
      rw [← hX]
      clear hS hX
      refine wpAnyE_one 6 rfl (by kernel_rfl) rfl (fun wd hS => ?_)
      obtain ⟨cs, kX, hz⟩ := hS.row5
      refine wp_store_row 70 _ _ rfl X5 #[.int .i64 y, .int .i64 x, .int .i64 C, .int .i64 T] rfl rfl 70 cs kX arr4Size hz (by simp [Value.oneCell']) ?_
      refine ⟨_, Two.store5 hS hbs #[.int .i64 y, .int .i64 x, .int .i64 C, .int .i64 T] rfl, stab_two, (by first | exact .inr fun _ h => h.imp5s | exact fun _ h => h.imp5s), ?_⟩
      try simp only [act_norm]
      clear hS kX hz cs
      refine wpAnyE_one 7 rfl (by kernel_rfl) rfl (fun wd hS => ?_)
      obtain ⟨cs, kX, hz⟩ := hS.row6
      refine wp_store_row 70 _ _ rfl X6 #[.int .i64 y2, .int .i64 x2, .int .i64 C2, .int .i64 T2] rfl rfl 70 cs kX arr4Size hz (by simp [Value.oneCell']) ?_
      refine ⟨_, Two.store6 hS hbs #[.int .i64 y2, .int .i64 x2, .int .i64 C2, .int .i64 T2] rfl, stab_two, (by first | exact .inr fun _ h => h.imp6s | exact fun _ h => h.imp6s), ?_⟩
      try simp only [act_norm]
      clear hS kX hz cs
      refine wpAnyE_done (by kernel_rfl) (fun wd hS => ?_) _
      have MF := Lib.hid hS
      clear hS
      go_wp2_with fail
      go_meet
      exact ⟨X5, X6, rfl, rfl, MF.out.heap5, MF.out.heap6, MF.out.mem.below⟩
    · go_wp2
      refine ⟨_, Two.alloc6 hS hS.big _ rfl, stab_two, (by first | exact .inr fun _ h => h.imp6a | exact fun _ h => h.imp6a), ?_⟩
      try simp only [act_norm]
      obtain ⟨X6, hX⟩ : ∃ X, X = wd.heap.size := ⟨_, rfl⟩
      rw [← hX]
      clear hS hX
      refine wpAnyE_one 4 rfl (by kernel_rfl) rfl (fun wd hS => ?_)
      go_wp2
      refine ⟨_, Two.alloc5 hS hS.big _ rfl, stab_two, (by first | exact .inr fun _ h => h.imp5a | exact fun _ h => h.imp5a), ?_⟩
      try simp only [act_norm]
      obtain ⟨X5, hX⟩ : ∃ X, X = wd.heap.size := ⟨_, rfl⟩
      rw [← hX]
      clear hS hX
      refine wpAnyE_one 6 rfl (by kernel_rfl) rfl (fun wd hS => ?_)
      obtain ⟨cs, kX, hz⟩ := hS.row5
      refine wp_store_row 70 _ _ rfl X5 #[.int .i64 y, .int .i64 x, .int .i64 C, .int .i64 T] rfl rfl 70 cs kX arr4Size hz (by simp [Value.oneCell']) ?_
      refine ⟨_, Two.store5 hS hbs #[.int .i64 y, .int .i64 x, .int .i64 C, .int .i64 T] rfl, stab_two, (by first | exact .inr fun _ h => h.imp5s | exact fun _ h => h.imp5s), ?_⟩
      try simp only [act_norm]
      clear hS kX hz cs
      refine wpAnyE_one 7 rfl (by kernel_rfl) rfl (fun wd hS => ?_)
      obtain ⟨cs, kX, hz⟩ := hS.row6
      refine wp_store_row 70 _ _ rfl X6 #[.int .i64 y2, .int .i64 x2, .int .i64 C2, .int .i64 T2] rfl rfl 70 cs kX arr4Size hz (by simp [Value.oneCell']) ?_
      refine ⟨_, Two.store6 hS hbs #[.int .i64 y2, .int .i64 x2, .int .i64 C2, .int .i64 T2] rfl, stab_two, (by first | exact .inr fun _ h => h.imp6s | exact fun _ h => h.imp6s), ?_⟩
      try simp only [act_norm]
      clear hS kX hz cs
      refine wpAnyE_done (by kernel_rfl) (fun wd hS => ?_) _
      have MF := Lib.hid hS
      clear hS
      go_wp2_with fail
      go_meet
      exact ⟨X5, X6, rfl, rfl, MF.out.heap5, MF.out.heap6, MF.out.mem.below⟩
  case rest =>
    obtain ⟨X5, X6, rfl, rfl, h5, h6, hB⟩ := hcut
    have H5 := Lib.hid h5
    have H6 := Lib.hid h6
    have HB := Lib.hid hB
    clear h5 h6 hB M0 F1 F2 hst hbs
    have hq := fun W : World => arr4_eq y x C T y2 x2 C2 T2 W
    have er := ER.out
    unfold Tri.cmp at er
    clear ER
    by_cases q0 : y = y2
    · rw [if_neg (fun h => h q0)] at er
      by_cases q1 : x = x2
      · rw [if_neg (fun h => h q1)] at er
        by_cases q2 : C = C2
        · rw [if_neg (fun h => h q2)] at er
          by_cases q3 : T = T2
          · skip
            have HQ : Hid (∀ W : World, (Op.equalIn 10000 70 (.agg #[.int .i64 y, .int .i64 x, .int .i64 C, .int .i64 T]) (.agg #[.int .i64 y2, .int .i64 x2, .int .i64 C2, .int .i64 T2])).run Tryz.prog W = .ok true W) := fun W => (hq W).trans (by simp [q0, q1, q2, q3])
            rw [q3, Adv.sgn_zero] at er
            have HE := Lib.hid er
            clear er hq q0 q1 q2 q3
            go_wp2_with (first | ((with_reducible refine wpList_load_rowAs rfl 70 _ rfl (X5) ?_ 70 #[.int .i64 y, .int .i64 x, .int .i64 C, .int .i64 T] (0, 0) _ 4 ?_ Tryz.underlying70 rfl (by kernel_rfl) ?_ ?_); exact rfl; exact H5.out; exact rfl) | ((with_reducible refine wpList_load_rowAs rfl 70 _ rfl (X6) ?_ 70 #[.int .i64 y2, .int .i64 x2, .int .i64 C2, .int .i64 T2] (0, 0) _ 4 ?_ Tryz.underlying70 rfl (by kernel_rfl) ?_ ?_); exact rfl; exact H6.out; exact rfl) | (with_reducible refine wpList_eql_agg rfl _ _ _ _ rfl _ _ rfl rfl true (by kernel_rfl) (HQ.out _) ?_))
            go_ret
            exact ⟨ret_int HE.out.symm, HB.out⟩
          · skip
            have d0 : (y != y2) = false := by simp [q0]
            have d1 : (x != x2) = false := by simp [q1]
            have d2 : (C != C2) = false := by simp [q2]
            have d3 : (T != T2) = true := by simpa using q3
            have HQ : Hid (∀ W : World, (Op.equalIn 10000 70 (.agg #[.int .i64 y, .int .i64 x, .int .i64 C, .int .i64 T]) (.agg #[.int .i64 y2, .int .i64 x2, .int .i64 C2, .int .i64 T2])).run Tryz.prog W = .ok false W) := fun W => (hq W).trans (by simp [q3])
            have HE := Lib.hid er
            clear er hq q0 q1 q2 q3
            go_wp2_with (first | ((with_reducible refine wpList_load_rowAs rfl 70 _ rfl (X5) ?_ 70 #[.int .i64 y, .int .i64 x, .int .i64 C, .int .i64 T] (0, 0) _ 4 ?_ Tryz.underlying70 rfl (by kernel_rfl) ?_ ?_); exact rfl; exact H5.out; exact rfl) | ((with_reducible refine wpList_load_rowAs rfl 70 _ rfl (X6) ?_ 70 #[.int .i64 y2, .int .i64 x2, .int .i64 C2, .int .i64 T2] (0, 0) _ 4 ?_ Tryz.underlying70 rfl (by kernel_rfl) ?_ ?_); exact rfl; exact H6.out; exact rfl) | (with_reducible refine wpList_eql_agg rfl _ _ _ _ rfl _ _ rfl rfl false (by kernel_rfl) (HQ.out _) ?_))
            go_loopw [15] (fun i wr => ∃ k : Nat, k ≤ 3 ∧ i = .int .i64 k ∧ wr.heap[X5]? = some (.cells #[.int .i64 y, .int .i64 x, .int .i64 C, .int .i64 T] 70 (0, 0)) ∧ wr.heap[X6]? = some (.cells #[.int .i64 y2, .int .i64 x2, .int .i64 C2, .int .i64 T2] 70 (0, 0)) ∧ Below w.heap.size w wr) (fun i _ => 4 - (intOf i).toNat)
            case atStart => exact ⟨0, by omega, rfl, H5.out, H6.out, HB.out⟩
            case round =>
              obtain ⟨k, hk, rfl, g5, g6, gB⟩ := hrel
              have G5 := Lib.hid g5
              have G6 := Lib.hid g6
              have GB := Lib.hid gB
              clear g5 g6 gB
              obtain rfl | rfl | rfl | rfl : k = 0 ∨ k = 1 ∨ k = 2 ∨ k = 3 := by omega
              · have c5 : wr.cell? ⟨X5, 0, none⟩ = some (.int .i64 y) := by rw [cell_of_row _ _ _ _ _ _ G5.out]; rfl
                have c6 : wr.cell? ⟨X6, 0, none⟩ = some (.int .i64 y2) := by rw [cell_of_row _ _ _ _ _ _ G6.out]; rfl
                clear hk
                go_wp2_with fail
                go_quiet (fail)
                have GB2 := Lib.hid (below_drewN GB.out nq)
                go_wp2
                exact ⟨⟨1, by omega, by first | rfl | go_num, G5.out, G6.out, GB2.out⟩, by simp [intOf]⟩
              · have c5 : wr.cell? ⟨X5, 1, none⟩ = some (.int .i64 x) := by rw [cell_of_row _ _ _ _ _ _ G5.out]; rfl
                have c6 : wr.cell? ⟨X6, 1, none⟩ = some (.int .i64 x2) := by rw [cell_of_row _ _ _ _ _ _ G6.out]; rfl
                clear hk
                go_wp2_with fail
                go_quiet (fail)
                have GB2 := Lib.hid (below_drewN GB.out nq)
                go_wp2
                exact ⟨⟨2, by omega, by first | rfl | go_num, G5.out, G6.out, GB2.out⟩, by simp [intOf]⟩
              · have c5 : wr.cell? ⟨X5, 2, none⟩ = some (.int .i64 C) := by rw [cell_of_row _ _ _ _ _ _ G5.out]; rfl
                have c6 : wr.cell? ⟨X6, 2, none⟩ = some (.int .i64 C2) := by rw [cell_of_row _ _ _ _ _ _ G6.out]; rfl
                clear hk
                go_wp2_with fail
                go_quiet (fail)
                have GB2 := Lib.hid (below_drewN GB.out nq)
                go_wp2
                exact ⟨⟨3, by omega, by first | rfl | go_num, G5.out, G6.out, GB2.out⟩, by simp [intOf]⟩
              · have c5 : wr.cell? ⟨X5, 3, none⟩ = some (.int .i64 T) := by rw [cell_of_row _ _ _ _ _ _ G5.out]; rfl
                have c6 : wr.cell? ⟨X6, 3, none⟩ = some (.int .i64 T2) := by rw [cell_of_row _ _ _ _ _ _ G6.out]; rfl
                clear hk
                go_wp2_with fail
                go_quiet (fail)
                have GB2 := Lib.hid (below_drewN GB.out nq)
                have c7 : (wr.drewN nq).cell? ⟨X5, 3, none⟩ = some (.int .i64 T) := c5
                have c8 : (wr.drewN nq).cell? ⟨X6, 3, none⟩ = some (.int .i64 T2) := c6
                clear c5 c6
                obtain ⟨W, hW⟩ : ∃ W, W = wr.drewN nq := ⟨_, rfl⟩
                rw [← hW] at c7 c8 GB2 ⊢
                clear hW
                go_wp2_with fail
                go_quiet ((go_at_call 37; exact Calls.quiet_of_same (cmp_compare _ _ _)))
                go_wp2
                go_ret
                exact ⟨ret_int HE.out.symm, below_drewN GB2.out nq⟩
        · rw [if_pos q2] at er
          have d0 : (y != y2) = false := by simp [q0]
          have d1 : (x != x2) = false := by simp [q1]
          have d2 : (C != C2) = true := by simpa using q2
          have HQ : Hid (∀ W : World, (Op.equalIn 10000 70 (.agg #[.int .i64 y, .int .i64 x, .int .i64 C, .int .i64 T]) (.agg #[.int .i64 y2, .int .i64 x2, .int .i64 C2, .int .i64 T2])).run Tryz.prog W = .ok false W) := fun W => (hq W).trans (by simp [q2])
          have HE := Lib.hid er
          clear er hq q0 q1 q2
          go_wp2_with (first | ((with_reducible refine wpList_load_rowAs rfl 70 _ rfl (X5) ?_ 70 #[.int .i64 y, .int .i64 x, .int .i64 C, .int .i64 T] (0, 0) _ 4 ?_ Tryz.underlying70 rfl (by kernel_rfl) ?_ ?_); exact rfl; exact H5.out; exact rfl) | ((with_reducible refine wpList_load_rowAs rfl 70 _ rfl (X6) ?_ 70 #[.int .i64 y2, .int .i64 x2, .int .i64 C2, .int .i64 T2] (0, 0) _ 4 ?_ Tryz.underlying70 rfl (by kernel_rfl) ?_ ?_); exact rfl; exact H6.out; exact rfl) | (with_reducible refine wpList_eql_agg rfl _ _ _ _ rfl _ _ rfl rfl false (by kernel_rfl) (HQ.out _) ?_))
          go_loopw [15] (fun i wr => ∃ k : Nat, k ≤ 2 ∧ i = .int .i64 k ∧ wr.heap[X5]? = some (.cells #[.int .i64 y, .int .i64 x, .int .i64 C, .int .i64 T] 70 (0, 0)) ∧ wr.heap[X6]? = some (.cells #[.int .i64 y2, .int .i64 x2, .int .i64 C2, .int .i64 T2] 70 (0, 0)) ∧ Below w.heap.size w wr) (fun i _ => 4 - (intOf i).toNat)
          case atStart => exact ⟨0, by omega, rfl, H5.out, H6.out, HB.out⟩
          case round =>
            obtain ⟨k, hk, rfl, g5, g6, gB⟩ := hrel
            have G5 := Lib.hid g5
            have G6 := Lib.hid g6
            have GB := Lib.hid gB
            clear g5 g6 gB
            obtain rfl | rfl | rfl : k = 0 ∨ k = 1 ∨ k = 2 := by omega
            · have c5 : wr.cell? ⟨X5, 0, none⟩ = some (.int .i64 y) := by rw [cell_of_row _ _ _ _ _ _ G5.out]; rfl
              have c6 : wr.cell? ⟨X6, 0, none⟩ = some (.int .i64 y2) := by rw [cell_of_row _ _ _ _ _ _ G6.out]; rfl
              clear hk
              go_wp2_with fail
              go_quiet (fail)
              have GB2 := Lib.hid (below_drewN GB.out nq)
              go_wp2
              exact ⟨⟨1, by omega, by first | rfl | go_num, G5.out, G6.out, GB2.out⟩, by simp [intOf]⟩
            · have c5 : wr.cell? ⟨X5, 1, none⟩ = some (.int .i64 x) := by rw [cell_of_row _ _ _ _ _ _ G5.out]; rfl
              have c6 : wr.cell? ⟨X6, 1, none⟩ = some (.int .i64 x2) := by rw [cell_of_row _ _ _ _ _ _ G6.out]; rfl
              clear hk
              go_wp2_with fail
              go_quiet (fail)
              have GB2 := Lib.hid (below_drewN GB.out nq)
              go_wp2
              exact ⟨⟨2, by omega, by first | rfl | go_num, G5.out, G6.out, GB2.out⟩, by simp [intOf]⟩
            · have c5 : wr.cell? ⟨X5, 2, none⟩ = some (.int .i64 C) := by rw [cell_of_row _ _ _ _ _ _ G5.out]; rfl
              have c6 : wr.cell? ⟨X6, 2, none⟩ = some (.int .i64 C2) := by rw [cell_of_row _ _ _ _ _ _ G6.out]; rfl
              clear hk
              go_wp2_with fail
              go_quiet (fail)
              have GB2 := Lib.hid (below_drewN GB.out nq)
              have c7 : (wr.drewN nq).cell? ⟨X5, 2, none⟩ = some (.int .i64 C) := c5
              have c8 : (wr.drewN nq).cell? ⟨X6, 2, none⟩ = some (.int .i64 C2) := c6
              clear c5 c6
              obtain ⟨W, hW⟩ : ∃ W, W = wr.drewN nq := ⟨_, rfl⟩
              rw [← hW] at c7 c8 GB2 ⊢
              clear hW
              go_wp2_with fail
              go_quiet ((go_at_call 37; exact Calls.quiet_of_same (cmp_compare _ _ _)))
              go_wp2
              go_ret
              exact ⟨ret_int HE.out.symm, below_drewN GB2.out nq⟩
      · rw [if_pos q1] at er
        have d0 : (y != y2) = false := by simp [q0]
        have d1 : (x != x2) = true := by simpa using q1
        have HQ : Hid (∀ W : World, (Op.equalIn 10000 70 (.agg #[.int .i64 y, .int .i64 x, .int .i64 C, .int .i64 T]) (.agg #[.int .i64 y2, .int .i64 x2, .int .i64 C2, .int .i64 T2])).run Tryz.prog W = .ok false W) := fun W => (hq W).trans (by simp [q1])
        have HE := Lib.hid er
        clear er hq q0 q1
        go_wp2_with (first | ((with_reducible refine wpList_load_rowAs rfl 70 _ rfl (X5) ?_ 70 #[.int .i64 y, .int .i64 x, .int .i64 C, .int .i64 T] (0, 0) _ 4 ?_ Tryz.underlying70 rfl (by kernel_rfl) ?_ ?_); exact rfl; exact H5.out; exact rfl) | ((with_reducible refine wpList_load_rowAs rfl 70 _ rfl (X6) ?_ 70 #[.int .i64 y2, .int .i64 x2, .int .i64 C2, .int .i64 T2] (0, 0) _ 4 ?_ Tryz.underlying70 rfl (by kernel_rfl) ?_ ?_); exact rfl; exact H6.out; exact rfl) | (with_reducible refine wpList_eql_agg rfl _ _ _ _ rfl _ _ rfl rfl false (by kernel_rfl) (HQ.out _) ?_))
        go_loopw [15] (fun i wr => ∃ k : Nat, k ≤ 1 ∧ i = .int .i64 k ∧ wr.heap[X5]? = some (.cells #[.int .i64 y, .int .i64 x, .int .i64 C, .int .i64 T] 70 (0, 0)) ∧ wr.heap[X6]? = some (.cells #[.int .i64 y2, .int .i64 x2, .int .i64 C2, .int .i64 T2] 70 (0, 0)) ∧ Below w.heap.size w wr) (fun i _ => 4 - (intOf i).toNat)
        case atStart => exact ⟨0, by omega, rfl, H5.out, H6.out, HB.out⟩
        case round =>
          obtain ⟨k, hk, rfl, g5, g6, gB⟩ := hrel
          have G5 := Lib.hid g5
          have G6 := Lib.hid g6
          have GB := Lib.hid gB
          clear g5 g6 gB
          obtain rfl | rfl : k = 0 ∨ k = 1 := by omega
          · have c5 : wr.cell? ⟨X5, 0, none⟩ = some (.int .i64 y) := by rw [cell_of_row _ _ _ _ _ _ G5.out]; rfl
            have c6 : wr.cell? ⟨X6, 0, none⟩ = some (.int .i64 y2) := by rw [cell_of_row _ _ _ _ _ _ G6.out]; rfl
            clear hk
            go_wp2_with fail
            go_quiet (fail)
            have GB2 := Lib.hid (below_drewN GB.out nq)
            go_wp2
            exact ⟨⟨1, by omega, by first | rfl | go_num, G5.out, G6.out, GB2.out⟩, by simp [intOf]⟩
          · have c5 : wr.cell? ⟨X5, 1, none⟩ = some (.int .i64 x) := by rw [cell_of_row _ _ _ _ _ _ G5.out]; rfl
            have c6 : wr.cell? ⟨X6, 1, none⟩ = some (.int .i64 x2) := by rw [cell_of_row _ _ _ _ _ _ G6.out]; rfl
            clear hk
            go_wp2_with fail
            go_quiet (fail)
            have GB2 := Lib.hid (below_drewN GB.out nq)
            have c7 : (wr.drewN nq).cell? ⟨X5, 1, none⟩ = some (.int .i64 x) := c5
            have c8 : (wr.drewN nq).cell? ⟨X6, 1, none⟩ = some (.int .i64 x2) := c6
            clear c5 c6
            obtain ⟨W, hW⟩ : ∃ W, W = wr.drewN nq := ⟨_, rfl⟩
            rw [← hW] at c7 c8 GB2 ⊢
            clear hW
            go_wp2_with fail
            go_quiet ((go_at_call 37; exact Calls.quiet_of_same (cmp_compare _ _ _)))
            go_wp2
            go_ret
            exact ⟨ret_int HE.out.symm, below_drewN GB2.out nq⟩
    · rw [if_pos q0] at er
      have d0 : (y != y2) = true := by simpa using q0
      have HQ : Hid (∀ W : World, (Op.equalIn 10000 70 (.agg #[.int .i64 y, .int .i64 x, .int .i64 C, .int .i64 T]) (.agg #[.int .i64 y2, .int .i64 x2, .int .i64 C2, .int .i64 T2])).run Tryz.prog W = .ok false W) := fun W => (hq W).trans (by simp [q0])
      have HE := Lib.hid er
      clear er hq q0
      go_wp2_with (first | ((with_reducible refine wpList_load_rowAs rfl 70 _ rfl (X5) ?_ 70 #[.int .i64 y, .int .i64 x, .int .i64 C, .int .i64 T] (0, 0) _ 4 ?_ Tryz.underlying70 rfl (by kernel_rfl) ?_ ?_); exact rfl; exact H5.out; exact rfl) | ((with_reducible refine wpList_load_rowAs rfl 70 _ rfl (X6) ?_ 70 #[.int .i64 y2, .int .i64 x2, .int .i64 C2, .int .i64 T2] (0, 0) _ 4 ?_ Tryz.underlying70 rfl (by kernel_rfl) ?_ ?_); exact rfl; exact H6.out; exact rfl) | (with_reducible refine wpList_eql_agg rfl _ _ _ _ rfl _ _ rfl rfl false (by kernel_rfl) (HQ.out _) ?_))
      go_loopw [15] (fun i wr => ∃ k : Nat, k ≤ 0 ∧ i = .int .i64 k ∧ wr.heap[X5]? = some (.cells #[.int .i64 y, .int .i64 x, .int .i64 C, .int .i64 T] 70 (0, 0)) ∧ wr.heap[X6]? = some (.cells #[.int .i64 y2, .int .i64 x2, .int .i64 C2, .int .i64 T2] 70 (0, 0)) ∧ Below w.heap.size w wr) (fun i _ => 4 - (intOf i).toNat)
      case atStart => exact ⟨0, by omega, rfl, H5.out, H6.out, HB.out⟩
      case round =>
        obtain ⟨k, hk, rfl, g5, g6, gB⟩ := hrel
        have G5 := Lib.hid g5
        have G6 := Lib.hid g6
        have GB := Lib.hid gB
        clear g5 g6 gB
        obtain rfl : k = 0 := by omega
        · have c5 : wr.cell? ⟨X5, 0, none⟩ = some (.int .i64 y) := by rw [cell_of_row _ _ _ _ _ _ G5.out]; rfl
          have c6 : wr.cell? ⟨X6, 0, none⟩ = some (.int .i64 y2) := by rw [cell_of_row _ _ _ _ _ _ G6.out]; rfl
          clear hk
          go_wp2_with fail
          go_quiet (fail)
          have GB2 := Lib.hid (below_drewN GB.out nq)
          have c7 : (wr.drewN nq).cell? ⟨X5, 0, none⟩ = some (.int .i64 y) := c5
          have c8 : (wr.drewN nq).cell? ⟨X6, 0, none⟩ = some (.int .i64 y2) := c6
          clear c5 c6
          obtain ⟨W, hW⟩ : ∃ W, W = wr.drewN nq := ⟨_, rfl⟩
          rw [← hW] at c7 c8 GB2 ⊢
          clear hW
          go_wp2_with fail
          go_quiet ((go_at_call 37; exact Calls.quiet_of_same (cmp_compare _ _ _)))
          go_wp2
          go_ret
          exact ⟨ret_int HE.out.symm, below_drewN GB2.out nq⟩
end Go.Proofs.YtildjnibdappnaaGreat
