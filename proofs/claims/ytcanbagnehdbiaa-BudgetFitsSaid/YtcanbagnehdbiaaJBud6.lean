/- Layer 51: decisions that are made to fit: what it takes. -/
import Derived.Test.YtcanbagnehdbiaaJBud5
import Derived.Test.YtcanbagnehdbiaaJBase
import Derived.Test.YtcanbagnehdbiaaJRingB
namespace Go.Proofs.Ytcanbagnehdbiaa
open Go.ChangeShapes Go.WideShapes Go.ChangeAt Go.RowKit

theorem Owns.putOne {w : World} {B n g cap sz : Nat} {xs : List Value} {p : Option Addr} (h : Owns w B sz (.slice p n cap) n xs) (hg : (Value.slice p n cap).ownBlock = some g) (j : Nat) (u : Value) (hj : j < n * sz) :
    Owns (w.setCell ⟨g, j, none⟩ u) B sz (.slice p n cap) n (xs.set j u) := by
  obtain ⟨hl, h⟩ := h
  refine ⟨by rw [List.length_set]; exact hl, ?_⟩
  rcases h with ⟨h1, h2⟩ | ⟨g', cap', h1, h2, h3, h4, h5, h6⟩
  · subst h2; omega
  · refine .inr ⟨g', cap', h1, h2, by simpa [World.setCell] using h3, h4, ?_, ?_⟩
    · have eg : g = g' := by
        simp only [Value.slice.injEq] at h1
        obtain ⟨rfl, _, _⟩ := h1
        simpa [Value.ownBlock] using hg.symm
      subst eg
      intro k x hk
      by_cases hkj : k = j
      · subst hkj
        have hx : x = u := by
          rw [List.getElem?_set_self (by omega)] at hk
          exact (Option.some.inj hk).symm
        subst hx
        obtain ⟨y, hy⟩ := Option.isSome_iff_exists.1 (h6 k (by simp only [Value.slice.injEq] at h1; obtain ⟨_, _, rfl⟩ := h1; exact Nat.lt_of_lt_of_le hj (Nat.mul_le_mul_right sz h4))).1
        exact World.cell?_setCell_same _ _ _ hy
      · rw [List.getElem?_set_ne (by omega)] at hk
        rw [World.cell?_setCell_other _ _ _ _ (by intro e; injection e with e1 e2; omega)]
        exact h5 k x hk
    · intro k hk
      obtain ⟨a, b⟩ := h6 k hk
      refine ⟨?_, by rw [World.frozen?_setCell]; exact b⟩
      by_cases hx : (⟨g', k, none⟩ : Addr) = ⟨g, j, none⟩
      · obtain ⟨y, hy⟩ := Option.isSome_iff_exists.1 a
        rw [hx] at hy ⊢
        rw [World.cell?_setCell_same _ _ _ hy]
        rfl
      · rw [World.cell?_setCell_other _ _ _ _ (fun e => hx e.symm)]; exact a

set_option maxRecDepth 100000 in
theorem cloneA_nil (w : World) : Calls Try.prog 75 #[.slice none 0 0] w fun e w' => e = .returned (.slice none 0 0) ∧ w = w' := by
  have hq : ∀ (w : World), (binOp .eql 24 (.slice none 0 0) (.slice none 0 0)).run Try.prog w = .ok (.bool true) w := fun w => Lib.run_eql_slice_nil w 24 56 none 0 0 0 0 Try.underlying24
  go_enter Try.func75, Try.ntmps75
  go_wp2
  go_ret
  exact ⟨rfl, rfl⟩

set_option maxRecDepth 100000 in
set_option maxRecDepth 100000 in
theorem cloneA_some (ad : Addr) (n c : Nat) (l : List Adv) (hn : l.length = n) (hb : n ≤ 100000) (w : World) (hs : Advs w (some ad) l) :
    Calls Try.prog 75 #[.slice (some ad) n c] w fun e w' => ∃ u, e = .returned u ∧ Owns w' w.heap.size 5 u n (advVals l) ∧ Below w.heap.size w w' := by
  have hq : ∀ (w : World), (binOp .eql 24 (.slice (some ad) n c) (.slice none 0 0)).run Try.prog w = .ok (.bool false) w := fun w => Lib.run_eql_slice_nil w 24 56 (some ad) n c 0 0 Try.underlying24
  have hl := advVals_len l
  rw [hn] at hl
  have HL := Lib.hid hl
  have HC := Lib.hid (hs.below (below1 w (.cells #[] 56))).news
  have H1 := Lib.hid (advVals_one l)
  have O : Hid (Owns (w.alloc (.cells #[] 56)) w.heap.size 5 (.slice (some ⟨w.heap.size, 0, none⟩) 0 0) 0 []) :=
    ⟨rfl, .inr ⟨w.heap.size, 0, rfl, Nat.le_refl _, by simp, Nat.le_refl _, fun j u hu => by simp at hu, fun j hj => by simp at hj⟩⟩
  clear hl hs hn
  go_enter Try.func75, Try.ntmps75
  go_wp2_with (at_builtin; refine wpList_append_any2 rfl _ _ 24 rfl w.heap.size 56 (.agg #[.int .i64 0, .int .i64 0, .int .i64 0, .int .i64 0, .int .i64 0]) 5 40 Try.underlying24 advInfo rfl (by decide) _ _ _ rfl O.out _ _ _ (advVals l) rfl (by rw [HL.out]) (fun h => by cases h) HC.out H1.out (by unfold maxLen; omega) (by omega) (by simp) ?_; intro u1 x1 ha1 hg1 hw1)
  go_ret
  exact ⟨_, rfl, by simpa using ha1, (below1 w _).grown hg1 (by simp) (fun k hk => Nat.le_of_eq (Option.some.inj (show some w.heap.size = some k from hk)))⟩


/-- What a policy needs at least; what was decided. -/
def Fit.mn (P : List (List Int)) (i : Nat) : Int := (P[i]?.getD [])[0]?.getD 0
def Fit.rp (A : List Adv) (i : Nat) : Int := (A[i]?.getD default).repl
def Fit.want (A : List Adv) (P : List (List Int)) (i : Nat) : Samp := ⟨min (Fit.mn P i) (Fit.rp A i), Fit.rp A i⟩
def Fit.wants (A : List Adv) (P : List (List Int)) : Nat → List Samp
  | 0 => []
  | k + 1 => Fit.wants A P k ++ [Fit.want A P k]
theorem Fit.wants_len (A : List Adv) (P : List (List Int)) : ∀ k, (Fit.wants A P k).length = k
  | 0 => rfl
  | k + 1 => by unfold Fit.wants; rw [List.length_append, Fit.wants_len A P k]; rfl
theorem Fit.pol_cell {w : World} {b off : Nat} {P : List (List Int)} (h : Go.Proofs.Ytcanbagnehdbiaa.Rows .i64 6 w (some ⟨b, off, none⟩) P) (k : Nat) (hk : k < P.length) (W : World) (hb : Below w.heap.size w W) : W.cell? ⟨b, off + k * 6, none⟩ = some (.int .i64 (Fit.mn P k)) := by
  rcases h with h0 | ⟨b', off', e, hw, hc⟩
  · omega
  · simp only [Option.some.injEq, Addr.mk.injEq, and_true] at e
    obtain ⟨rfl, rfl⟩ := e
    have := hc (k * 6) (by omega)
    rw [hb.cell (p := ⟨b, off + k * 6, none⟩) hw, this]
    show some (Value.int .i64 ((P[k * 6 / 6]?.getD [])[k * 6 % 6]?.getD 0)) = _
    rw [show k * 6 / 6 = k by omega, show k * 6 % 6 = 0 by omega]
    rfl
theorem Fit.adv_cells {w : World} {b off : Nat} {A : List Adv} (h : Advs w (some ⟨b, off, none⟩) A) (k : Nat) (hk : k < A.length) (W : World) (hb : Below w.heap.size w W) :
    W.cell? ⟨b, off + k * 5, none⟩ = some (.int .i64 (A[k]?.getD default).tick) ∧ W.cell? ⟨b, off + k * 5 + 1, none⟩ = some (.int .i64 (A[k]?.getD default).load) ∧ W.cell? ⟨b, off + k * 5 + 2, none⟩ = some (.int .i64 (A[k]?.getD default).want) ∧ W.cell? ⟨b, off + k * 5 + 3, none⟩ = some (.int .i64 (A[k]?.getD default).repl) ∧ W.cell? ⟨b, off + k * 5 + 4, none⟩ = some (.int .i64 (A[k]?.getD default).why) := (h.below hb).at k hk
/-- The first k of the decisions with what each has. -/
def Fit.part (S : List Int) (A : List Adv) (k : Nat) : List Value := (advVals A).mapIdx fun j u => if j % 5 = 3 ∧ j / 5 < k then .int .i64 (Bud.hv S (j / 5)) else u
theorem Fit.part_zero (S : List Int) (A : List Adv) : Fit.part S A 0 = advVals A := by
  unfold Fit.part
  apply List.ext_getElem?
  intro i
  rw [List.getElem?_mapIdx]
  cases (advVals A)[i]? with
  | none => rfl
  | some u => simp
theorem Fit.part_next (S : List Int) (A : List Adv) (k : Nat) (hk : k < A.length) : Fit.part S A (k + 1) = (Fit.part S A k).set (k * 5 + 3) (.int .i64 (Bud.hv S k)) := by
  apply List.ext_getElem?
  intro i
  have hl : (Fit.part S A k).length = A.length * 5 := by unfold Fit.part; rw [List.length_mapIdx, advVals_len]
  by_cases e : i = k * 5 + 3
  · subst e
    rw [List.getElem?_set_self (by omega)]
    unfold Fit.part
    rw [List.getElem?_mapIdx, advVals_get A _ (by omega)]
    show some (if (k * 5 + 3) % 5 = 3 ∧ (k * 5 + 3) / 5 < k + 1 then _ else _) = _
    rw [if_pos (by omega), show (k * 5 + 3) / 5 = k by omega]
  · rw [List.getElem?_set_ne (by omega)]
    unfold Fit.part
    rw [List.getElem?_mapIdx, List.getElem?_mapIdx]
    cases (advVals A)[i]? with
    | none => rfl
    | some u =>
      show some (if _ then _ else _) = some (if _ then _ else _)
      by_cases g : i % 5 = 3 ∧ i / 5 < k
      · rw [if_pos g, if_pos (by omega)]
      · rw [if_neg g, if_neg (by omega)]
theorem Fit.part_get (S : List Int) (A : List Adv) (n i : Nat) (hi : i < A.length) (hn : i < n) : (Fit.part S A n)[i * 5]? = some (.int .i64 (A[i]?.getD default).tick) ∧ (Fit.part S A n)[i * 5 + 1]? = some (.int .i64 (A[i]?.getD default).load) ∧ (Fit.part S A n)[i * 5 + 2]? = some (.int .i64 (A[i]?.getD default).want) ∧ (Fit.part S A n)[i * 5 + 3]? = some (.int .i64 (Bud.hv S i)) ∧ (Fit.part S A n)[i * 5 + 4]? = some (.int .i64 (A[i]?.getD default).why) := by
  have key : ∀ c, c < 5 → (Fit.part S A n)[i * 5 + c]? = some (if c = 3 then .int .i64 (Bud.hv S i) else .int .i64 ((A[i]?.getD default).get c)) := by
    intro c hc
    unfold Fit.part
    rw [List.getElem?_mapIdx, advVals_get A _ (by omega)]
    show some (if (i * 5 + c) % 5 = 3 ∧ (i * 5 + c) / 5 < n then _ else _) = _
    rw [show (i * 5 + c) % 5 = c by omega, show (i * 5 + c) / 5 = i by omega]
    by_cases e : c = 3
    · rw [if_pos ⟨e, hn⟩, if_pos e]
    · rw [if_neg (fun h => e h.1), if_neg e]
  exact ⟨key 0 (by omega), key 1 (by omega), key 2 (by omega), key 3 (by omega), key 4 (by omega)⟩
end Go.Proofs.Ytcanbagnehdbiaa
