/- Layer 14: a ring of decisions: its room, its length, a new one, what is pushed. -/
import Derived.Test.YtildjnibdappnaaTurn
import Derived.Test.YtildjnibdappnaaAdvRows
import Derived.Deep.MidRow
namespace Go.Proofs.Ytildjnibdappnaa
open Go.ChangeShapes Go.WideShapes Go.ChangeAt Go.RowKit

/-- One element put anew, whatever its cells. -/
theorem Owns.putMid {w : World} {B n g cap sz : Nat} {xs : List Value} {p : Option Addr} (h : Owns w B sz (.slice p n cap) n xs) (hg : (Value.slice p n cap).ownBlock = some g) (j : Nat) (us : List Value) (hu : us.length = sz) (hj : j < n)
    (xs' : List Value) (hl : xs'.length = xs.length) (hx : ∀ i, xs'[i]? = if j * sz ≤ i ∧ i < j * sz + sz then us[i - j * sz]? else xs[i]?) :
    Owns (w.setCells g (j * sz) us) B sz (.slice p n cap) n xs' := by
  obtain ⟨hl0, h⟩ := h
  refine ⟨hl.trans hl0, ?_⟩
  rcases h with ⟨h1, h2⟩ | ⟨g', cap', h1, h2, h3, h4, h5, h6⟩
  · omega
  · obtain rfl : g = g' := by
      simp only [Value.slice.injEq] at h1
      obtain ⟨rfl, _, _⟩ := h1
      simpa [Value.ownBlock] using hg.symm
    have hjs : j * sz + sz ≤ cap' * sz := by
      have : (j + 1) * sz ≤ cap' * sz := Nat.mul_le_mul_right _ (by omega)
      rw [Nat.add_mul, Nat.one_mul] at this
      exact this
    refine .inr ⟨g, cap', h1, h2, Nat.lt_of_lt_of_le h3 (below_setCells g us (j * sz) (Below.refl g w)).size, h4, fun i u hi => ?_, fun i hi => ⟨?_, ?_⟩⟩
    · rw [hx] at hi
      by_cases hin : j * sz ≤ i ∧ i < j * sz + sz
      · rw [if_pos hin] at hi
        have hlt : i - j * sz < us.length := (List.getElem?_eq_some_iff.1 hi).1
        have := World.cell?_setCells_in g us (j * sz) w (fun k hk => (h6 _ (by omega)).1) (i - j * sz) hlt
        rw [show j * sz + (i - j * sz) = i by omega] at this
        rw [this, ← hi, List.getElem?_eq_getElem hlt]
      · rw [if_neg hin] at hi
        rw [World.cell?_setCells_out g us _ w ⟨g, i, none⟩ (fun _ _ => by show i < _ ∨ _ ≤ i; omega)]
        exact h5 i u hi
    · exact isSome_setCells _ _ _ _ _ (h6 i hi).1
    · rw [World.frozen?_setCells]; exact (h6 i hi).2
theorem Turned.setCells {S : Nat → Prop} {w w' : World} (h : Turned S w w') {b : Nat} (hb : b < w.heap.size → S b) : ∀ (vs : List Value) (o : Nat), Turned S w (w'.setCells b o vs) := by
  intro vs
  induction vs generalizing w' with
  | nil => intro o; exact h
  | cons v r ih => intro o; exact ih (h.setCell v hb) (o + 1)
theorem heap_setCells_other (w : World) (b : Nat) (vs : List Value) (o k : Nat) (hk : k ≠ b) : (w.setCells b o vs).heap[k]? = w.heap[k]? := by
  induction vs generalizing w o with
  | nil => rfl
  | cons v r ih => exact (ih (w.setCell ⟨b, o, none⟩ v) (o + 1)).trans (Below.heap_setCell _ _ _ _ hk)

theorem advVals_set (ys : List Adv) (f : Nat) (a : Adv) (i : Nat) : (advVals (ys.set f a))[i]? = if f * 5 ≤ i ∧ i < f * 5 + 5 then (if f < ys.length then (advVals [a])[i - f * 5]? else none) else (advVals ys)[i]? := by
  induction ys generalizing f i with
  | nil =>
    simp [advVals]
  | cons y ys ih =>
    cases f with
    | zero =>
      match i with
      | 0 => rfl
      | 1 => rfl
      | 2 => rfl
      | 3 => rfl
      | 4 => rfl
      | i + 5 => rw [if_neg (by omega)]; rfl
    | succ f =>
      match i with
      | 0 => rw [if_neg (by omega)]; rfl
      | 1 => rw [if_neg (by omega)]; rfl
      | 2 => rw [if_neg (by omega)]; rfl
      | 3 => rw [if_neg (by omega)]; rfl
      | 4 => rw [if_neg (by omega)]; rfl
      | i + 5 =>
        show (advVals (ys.set f a))[i]? = _
        rw [ih]
        have e : (y :: ys).length = ys.length + 1 := rfl
        by_cases h : f * 5 ≤ i ∧ i < f * 5 + 5
        · rw [if_pos h, if_pos (show (f + 1) * 5 ≤ i + 5 ∧ i + 5 < (f + 1) * 5 + 5 by omega), e, show i + 5 - (f + 1) * 5 = i - f * 5 by omega]
          by_cases h2 : f < ys.length
          · rw [if_pos h2, if_pos (show f + 1 < ys.length + 1 by omega)]
          · rw [if_neg h2, if_neg (show ¬ f + 1 < ys.length + 1 by omega)]
        · rw [if_neg h, if_neg (by omega)]
          rfl
theorem advVals_mid (ys : List Adv) (f : Nat) (a : Adv) (h : ys[f]? = some a) (j : Nat) (v : Value) (hj : (advVals [a])[j]? = some v) : (advVals ys)[f * 5 + j]? = some v := by
  have hj5 : j < 5 := (List.getElem?_eq_some_iff.1 hj).1
  have hf := (List.getElem?_eq_some_iff.1 h).1
  have e : ys.set f a = ys := by
    apply List.ext_getElem?
    intro i
    by_cases hi : i = f
    · subst hi; rw [List.getElem?_set_self hf, h]
    · rw [List.getElem?_set_ne (by omega)]
  have := advVals_set ys f a (f * 5 + j)
  rw [e, if_pos (by omega), if_pos hf, show f * 5 + j - f * 5 = j by omega] at this
  rw [this]; exact hj

section
variable {P : Program} {o : Oper} {a : Act} {w : World} {K : Act → World → Prop} {Q : Exit → Act → World → Prop}
theorem wp_append_any2 (s x : Operand) (t : TypeId) (ho : o.op = .call { callee := .builtin .append, args := #[s, x], argTypes := #[t, t] })
    (B : Nat) (e : TypeId) (z : Value) (size bytes : Nat) (ht : P.underlying t = some (.slice e)) (hi : (P.info? e).map (fun i => (i.zero, i.size, i.bytes)) = some (some z, size, bytes)) (hzs : z.cells.size = size) (hsz : 0 < size)
    (v : Value) (n : Nat) (xs : List Value) (hs : a.eval s = v) (hown : Owns w B size v n xs)
    (ao : Option Addr) (m c : Nat) (news : List Value) (hx : a.eval x = .slice ao m c) (hl : news.length = m * size) (hnone : ao = none → m = 0 ∧ c = 0) (hnews : ∀ ad, ao = some ad → ∀ j u, news[j]? = some u → w.cell? (ad.add j) = some u) (h1 : ∀ u ∈ news, u.oneCell' = true)
    (h63 : n + m ≤ maxLen) (hbytes : (n + m) * bytes ≤ 140737488355328) (hB : B ≤ w.heap.size)
    (h : ∀ v' w', Owns w' B size v' (n + m) (xs ++ news) → w.grownBy w' v.ownBlock → (v'.ownBlock = v.ownBlock ∨ ∀ k, v'.ownBlock = some k → w.heap.size ≤ k) → K (a.put o.dst v') w') : o.wp P a w K Q := by
  obtain ⟨i, hi1, hi2, hi3, hi4⟩ := info_parts hi
  obtain ⟨v', w', hr, h2, h3, h4⟩ := run_append_any2 (P := P) w B t o.type e i z size bytes ht hi1 hi2 hi3 hi4 hzs hsz v n xs hown ao m c news hl hnone hnews h1 h63 hbytes hB
  unfold Oper.wp execOp
  simp only [ho, resolve, invoke, builtin, Sem.run_bind, Sem.run_pure, Result.andThen_ok, List.map_toArray, List.map_cons, List.map_nil, hs, hx, hr]
  exact h v' w' h2 h3 h4
end

theorem advSize5 : (Try.prog.info? 24).map (·.size) = some 5 := by kernel_rfl
theorem advVals_one1 (a : Adv) : ∀ u ∈ advVals [a], u.oneCell' = true := by
  intro u h
  simp only [advVals, List.mem_cons] at h
  rcases h with rfl | rfl | rfl | rfl | rfl | h <;> first | rfl | cases h
theorem turned_setRow (w : World) (b : Nat) (cs : Array Value) : Turned (fun k => k = b) w (w.setRow b cs) := ⟨rfl, rfl, rfl, by simp, fun k hk hn => setRow_other w b k cs hn⟩
theorem ring_mid {w : World} {B n g cap first : Nat} {xs cs : List Value} (h : Owns w B 5 (.slice (some ⟨g, 0, none⟩) n cap) n xs) (hf : first < n) (hy : ∀ j u, cs[j]? = some u → xs[first * 5 + j]? = some u) : w.rangeAt g (first * 5) cs := by
  intro j u hu
  obtain ⟨_, hO⟩ := h
  rcases hO with ⟨_, h0⟩ | ⟨g', cap', h0, _, _, _, h5, _⟩
  · omega
  · simp at h0; rw [h0.1]; exact h5 _ _ (hy j u hu)
theorem ring_there {w : World} {B n g cap first : Nat} {xs : List Value} (h : Owns w B 5 (.slice (some ⟨g, 0, none⟩) n cap) n xs) (hf : first < n) : w.there g (first * 5) 5 := by
  intro j hj
  obtain ⟨_, hO⟩ := h
  rcases hO with ⟨_, h0⟩ | ⟨g', cap', h0, _, _, _, _, h6⟩
  · omega
  · simp at h0; rw [h0.1]; exact h6 _ (by omega)
theorem ringA_new_no (room : Int) (h : room < 1 ∨ 4096 < room) (w : World) : Calls Try.prog 47 #[.int .i64 room] w fun e w' => e = .returned (.pointer none) ∧ w = w' := by
  by_cases h1 : room < 1
  · clear h
    go_enter Try.func47, Try.ntmps47
    go_wp2
    go_ret
    exact ⟨rfl, rfl⟩
  · have h2 : 4096 < room := by omega
    clear h
    go_enter Try.func47, Try.ntmps47
    go_wp2
    go_ret
    exact ⟨rfl, rfl⟩
theorem ringA_new (room : Nat) (h1 : 1 ≤ room) (h2 : room ≤ 4096) (w : World) : Calls Try.prog 47 #[.int .i64 room] w fun e w' => e = .returned (.pointer (some ⟨w.heap.size, 0, none⟩)) ∧ w' = w.alloc (.cells #[.int .i64 room, .int .i64 0, .slice none 0 0] 105) := by
  go_enter Try.func47, Try.ntmps47
  go_wp2
  go_ret
  exact ⟨rfl, rfl⟩
theorem ringA_room_nil (w : World) : Calls Try.prog 51 #[.pointer none] w fun e w' => e = .returned (.int .i64 0) ∧ w = w' := by
  go_enter Try.func51, Try.ntmps51
  go_wp2
  go_ret
  exact ⟨rfl, rfl⟩
theorem ringA_room {w : World} {B r : Nat} {v : Value} {room first n : Nat} {xs : List Value} (h : RingAt 105 5 w B r v room first n xs) :
    Calls Try.prog 51 #[.pointer (some ⟨r, 0, none⟩)] w fun e w' => e = .returned (.int .i64 room) ∧ w = w' := by
  have c0 := h.cell0
  clear h
  go_enter Try.func51, Try.ntmps51
  go_wp2
  go_ret
  exact ⟨rfl, rfl⟩
theorem ringA_len_nil (w : World) : Calls Try.prog 52 #[.pointer none] w fun e w' => e = .returned (.int .i64 0) ∧ w = w' := by
  go_enter Try.func52, Try.ntmps52
  go_wp2
  go_ret
  exact ⟨rfl, rfl⟩
theorem ringA_len {w : World} {B r : Nat} {v : Value} {room first n : Nat} {xs : List Value} (h : RingAt 105 5 w B r v room first n xs) :
    Calls Try.prog 52 #[.pointer (some ⟨r, 0, none⟩)] w fun e w' => e = .returned (.int .i64 n) ∧ w = w' := by
  have c2 := h.cell2
  obtain ⟨p, cap, rfl, _⟩ := h.owns.sl
  clear h
  go_enter Try.func52, Try.ntmps52
  go_wp2
  go_ret
  exact ⟨rfl, rfl⟩
end Go.Proofs.Ytildjnibdappnaa
