/- Layer 51: what each one has: the program's. -/
import Derived.Test.YtcanbagnehdbiaaJBud
namespace Go.Proofs.Ytcanbagnehdbiaa
open Go.ChangeShapes Go.WideShapes Go.ChangeAt Go.RowKit

def Bud.give (h : List Int) (j : Nat) : List Int := h.set j (Bud.hv h j + 1)
def Bud.who (l : List Samp) (h : List Int) : Int := (Bud.scan (Bud.wt l) (Bud.hv h) l.length).1
def Bud.run (l : List Samp) : Nat → List Int → List Int
  | 0, h => h
  | k + 1, h => if Bud.who l h < 0 then h else Bud.run l k (Bud.give h (Bud.who l h).toNat)
def Bud.left (total : Int) (l : List Samp) (k : Nat) : Int := total - Sat.sum ((Bud.mins l).take k)
def Bud.share (total : Int) (l : List Samp) : List Int := Bud.run l (Bud.left total l l.length).toNat (Bud.mins l)
theorem Bud.bads_none (l : List Samp) : ∀ n, Bud.bads l n = false → ∀ j, j < n → 0 ≤ (l[j]?.getD default).tick ∧ (l[j]?.getD default).tick ≤ (l[j]?.getD default).val
  | 0, _, j, h => absurd h (Nat.not_lt_zero j)
  | n + 1, e, j, h => by
    unfold Bud.bads at e
    simp only [Bool.or_eq_false_iff, decide_eq_false_iff_not] at e
    by_cases hj : j = n
    · subst hj; omega
    · exact Bud.bads_none l n e.1 j (by omega)
theorem Bud.check_ok {total : Int} {l : List Samp} (h : Bud.check total l = 0) : 0 ≤ total ∧ total ≤ 4096 ∧ l.length ≤ 64 ∧ Bud.bads l l.length = false ∧ Sat.sum (Bud.mins l) ≤ total := by
  unfold Bud.check at h
  split at h
  · omega
  · split at h
    · omega
    · split at h
      · omega
      · rename_i h1 h2 h3
        exact ⟨by omega, by omega, by omega, by simpa using h2, by omega⟩
theorem Bud.mins_len (l : List Samp) : (Bud.mins l).length = l.length := by unfold Bud.mins; rw [List.length_map]
theorem Bud.hv_mins (l : List Samp) (j : Nat) (h : j < l.length) : Bud.hv (Bud.mins l) j = (l[j]?.getD default).tick := by
  unfold Bud.hv Bud.mins
  rw [List.getElem?_map, List.getElem?_eq_getElem h]
  rfl
theorem Bud.ok_mins {total : Int} {l : List Samp} (h : Bud.check total l = 0) (hl : ∀ a ∈ l, a.In) : Bud.Ok l (Bud.mins l) := by
  obtain ⟨_, _, _, hb, _⟩ := Bud.check_ok h
  refine ⟨Bud.mins_len l, fun j hj => ?_⟩
  have := Bud.bads_none l l.length hb j hj
  rw [Bud.hv_mins l j hj]
  unfold Bud.wt
  have hin : (l[j]?.getD default).In := by rw [List.getElem?_eq_getElem hj]; exact hl _ (List.getElem_mem _)
  exact ⟨this.1, this.2, hin.2.2⟩
/-- What is needed so far: no more than there is; it grows by what is needed. -/
theorem Bud.sums {total : Int} {l : List Samp} (h : Bud.check total l = 0) : (∀ k, k ≤ l.length → 0 ≤ Sat.sum ((Bud.mins l).take k) ∧ Sat.sum ((Bud.mins l).take k) ≤ total) ∧ ∀ k, k < l.length → Bud.left total l (k + 1) = Bud.left total l k - (l[k]?.getD default).tick := by
  obtain ⟨_, h2, _, hb, hs⟩ := Bud.check_ok h
  have hpos := Bud.bads_none l l.length hb
  have hz : ∀ k, k ≤ l.length → 0 ≤ Sat.sum ((Bud.mins l).take k) := by
    intro k
    induction k with
    | zero => intro _; exact Int.le_refl _
    | succ k ih =>
      intro hk
      have := ih (by omega)
      have hp := (hpos k (by omega)).1
      rw [Bud.mins_next l k (by omega)]
      unfold Sat.clamp
      split
      · omega
      · split <;> omega
  have hup : ∀ d k, k + d = l.length → Sat.sum ((Bud.mins l).take k) ≤ total := by
    intro d
    induction d with
    | zero =>
      intro k hk
      rw [List.take_of_length_le (by rw [Bud.mins_len]; omega)]
      exact hs
    | succ d ih =>
      intro k hk
      have h1 := ih (k + 1) (by omega)
      have h0 := hz k (by omega)
      have hp := (hpos k (by omega)).1
      rw [Bud.mins_next l k (by omega)] at h1
      unfold Sat.clamp at h1
      split at h1
      · omega
      · split at h1 <;> omega
  refine ⟨fun k hk => ⟨hz k hk, hup (l.length - k) k (by omega)⟩, fun k hk => ?_⟩
  unfold Bud.left
  have h1 := hup (l.length - (k + 1)) (k + 1) (by omega)
  have h0 := hz k (by omega)
  have hp := (hpos k hk).1
  rw [Bud.mins_next l k hk] at h1 ⊢
  unfold Sat.clamp at h1 ⊢
  split at h1
  · omega
  · split at h1
    · omega
    · rename_i g1 g2
      rw [if_neg g1, if_neg g2]
      omega
theorem Bud.who_spec {l : List Samp} {h : List Int} : (Bud.who l h = -1 ∧ ∀ j, j < l.length → Bud.wt l j - Bud.hv h j ≤ 0) ∨ ∃ j, j < l.length ∧ Bud.who l h = (j : Int) ∧ 0 < Bud.wt l j - Bud.hv h j ∧ ∀ i, i < l.length → Bud.wt l i - Bud.hv h i ≤ Bud.wt l j - Bud.hv h j := by
  rcases Bud.scan_spec (Bud.wt l) (Bud.hv h) l.length with ⟨a, _, b⟩ | ⟨j, a, b, _, d, e⟩
  · exact .inl ⟨a, b⟩
  · exact .inr ⟨j, a, b, d, e⟩
theorem Bud.give_hv {h : List Int} {j : Nat} (hj : j < h.length) (i : Nat) : Bud.hv (Bud.give h j) i = if i = j then Bud.hv h j + 1 else Bud.hv h i := by
  unfold Bud.give
  show (h.set j (Bud.hv h j + 1))[i]?.getD 0 = _
  by_cases e : i = j
  · subst e
    rw [if_pos rfl, List.getElem?_set_self hj]
    rfl
  · rw [if_neg e, List.getElem?_set_ne (by omega)]
    rfl
theorem Bud.ok_give {l : List Samp} {h : List Int} (hok : Bud.Ok l h) {j : Nat} (hj : j < l.length) (hl : 0 < Bud.wt l j - Bud.hv h j) : Bud.Ok l (Bud.give h j) := by
  obtain ⟨h1, h2⟩ := hok
  refine ⟨by unfold Bud.give; rw [List.length_set]; exact h1, fun i hi => ?_⟩
  have := h2 i hi
  rw [Bud.give_hv (by omega)]
  split
  · rename_i e; subst e; omega
  · exact this

theorem Owns.some_of2 {w : World} {B n sz : Nat} {v : Value} {xs : List Value} (h : Owns w B sz v n xs) (hn : 0 < n) : ∃ g cap, v = .slice (some ⟨g, 0, none⟩) n cap ∧ B ≤ g ∧ g < w.heap.size ∧ n ≤ cap ∧ (∀ j u, xs[j]? = some u → w.cell? ⟨g, j, none⟩ = some u) ∧ (∀ j, j < n * sz → (w.cell? ⟨g, j, none⟩).isSome = true ∧ w.frozen? ⟨g, j, none⟩ = false) := by
  obtain ⟨_, hO⟩ := h
  rcases hO with ⟨_, h0⟩ | ⟨g, cap, h0, h1, h2, h3, h4, h5⟩
  · omega
  · exact ⟨g, cap, h0, h1, h2, h3, h4, fun j hj => h5 j (Nat.lt_of_lt_of_le hj (Nat.mul_le_mul_right sz h3))⟩
theorem Mem.turnedB {S : Nat → Prop} {w w' w'' : World} {bs : List (Nat × Obj)} (h : Mem w w' bs) (ht : Turned S w' w'') (hS : ∀ k, S k → w.heap.size ≤ k ∧ ∀ (i : Nat) (o : Obj), bs[i]? ≠ some (k, o)) : Mem w w'' bs :=
  ⟨h.below.trans (ht.below (fun k hk => (hS k hk).1) h.below.size), fun i b o hi => (ht.block b (h.lt hi) (fun e => (hS b e).2 i o hi)).trans (h.has i b o hi), h.apart, h.own⟩

section
variable {l : List Samp} {h : List Int} {w0 w : World} {bl bh B n c d : Nat} {q p : Option Addr}
set_option maxHeartbeats 1000000 in
set_option maxRecDepth 100000 in
theorem share_give_no (hok : Bud.Ok l h) (hn : l.length = n) (hb : n ≤ 64) (hM : Mem w0 w [(bl, .cells #[.slice q n c] 41 (0, 0)), (bh, .cells #[.slice p n d] 37 (0, 0))]) (hO : Owns w B 1 (.slice p n d) n (intVals h)) (hs : Samps w0 q l) (hw : Bud.who l h < 0) :
    Calls Try.prog 71 #[.pointer (some ⟨bl, 0, none⟩), .pointer (some ⟨bh, 0, none⟩)] w fun e w' => e = .returned (.bool false) ∧ Below w.heap.size w w' := by
  have hO2 := hO
  rw [show n = h.length by rw [hok.1, hn]] at hO2
  obtain ⟨p', d', e, _, hi⟩ := ints_of_owns hO2
  simp only [Value.slice.injEq] at e
  obtain ⟨rfl, _, rfl⟩ := e
  have F := Lib.hid (budget_neediest q c l p d h hok (by omega) w (hs.below hM.below) hi)
  rw [hn] at F
  have hx : (Bud.scan (Bud.wt l) (Bud.hv h) n).1 = -1 := by
    rcases Bud.who_spec (l := l) (h := h) with ⟨a, _⟩ | ⟨j, _, a, _⟩
    · unfold Bud.who at a; rw [← hn]; exact a
    · omega
  rw [hx] at F
  have k1 := hM.cell 0 0 rfl rfl
  have k2 := hM.cell 1 0 rfl rfl
  clear hO2 hi hx hok hM hO hs hw
  go_enter Try.func71, Try.ntmps71
  go_wp2_with fail
  (with_reducible refine F.out.mono ?_)
  rintro e w1 ⟨rfl, hb1⟩
  have B1 := Lib.hid hb1
  clear hb1
  go_wp2
  go_ret
  exact ⟨rfl, B1.out⟩
set_option maxHeartbeats 1000000 in
set_option maxRecDepth 100000 in
theorem share_give_yes (hok : Bud.Ok l h) (hn : l.length = n) (hb : n ≤ 64) (hM : Mem w0 w [(bl, .cells #[.slice q n c] 41 (0, 0)), (bh, .cells #[.slice p n d] 37 (0, 0))]) (hO : Owns w B 1 (.slice p n d) n (intVals h)) (hs : Samps w0 q l) (hB : w0.heap.size ≤ B) (h1 : bl < B) (h2 : bh < B) {j : Nat} (hj : j < n) (hw : Bud.who l h = (j : Int)) (hlack : 0 < Bud.wt l j - Bud.hv h j) :
    Calls Try.prog 71 #[.pointer (some ⟨bl, 0, none⟩), .pointer (some ⟨bh, 0, none⟩)] w fun e w' => e = .returned (.bool true) ∧ Mem w0 w' [(bl, .cells #[.slice q n c] 41 (0, 0)), (bh, .cells #[.slice p n d] 37 (0, 0))] ∧ Owns w' B 1 (.slice p n d) n (intVals (Bud.give h j)) := by
  have hO2 := hO
  rw [show n = h.length by rw [hok.1, hn]] at hO2
  obtain ⟨p', d', e, _, hi⟩ := ints_of_owns hO2
  simp only [Value.slice.injEq] at e
  obtain ⟨rfl, _, rfl⟩ := e
  have F := Lib.hid (budget_neediest q c l p d h hok (by omega) w (hs.below hM.below) hi)
  rw [hn] at F
  have hx : (Bud.scan (Bud.wt l) (Bud.hv h) n).1 = (j : Int) := by unfold Bud.who at hw; rw [← hn]; exact hw
  rw [hx] at F
  have hok2 := hok.2 j (by omega)
  have hhl : j < h.length := by rw [hok.1, hn]; exact hj
  have hv : h[j]? = some (Bud.hv h j) := by unfold Bud.hv; rw [List.getElem?_eq_getElem hhl]; rfl
  have hset : (intVals h).set j (.int .i64 (Bud.hv h j + 1)) = intVals (Bud.give h j) := by unfold Bud.give intVals; rw [List.map_set]
  obtain ⟨y, ey⟩ : ∃ y, y = Bud.hv h j := ⟨_, rfl⟩
  rw [← ey] at hok2 hv hset hlack
  have hy : 0 ≤ y ∧ y + 1 ≤ 9223372036854775807 := by omega
  have k1 := hM.cell 0 0 rfl rfl
  have k2 := hM.cell 1 0 rfl rfl
  have M0 := Lib.hid hM
  have O0 := Lib.hid hO
  have HSET := Lib.hid hset
  have HV : Hid ((intVals h)[j]? = some (.int .i64 y)) := by show _ = _; unfold intVals; rw [List.getElem?_map, hv]; rfl
  have hjn : (j : Int) < n := by omega
  have hj0 : (0 : Int) ≤ j := by omega
  clear hO2 hi hx hok hM hO hs hw hok2 hhl hv hset ey hlack
  go_enter Try.func71, Try.ntmps71
  go_wp2_with fail
  (with_reducible refine F.out.mono ?_)
  rintro e w1 ⟨rfl, hb1⟩
  have M1 := Lib.hid (M0.out.call hb1)
  have O1 := Lib.hid (O0.out.below hb1)
  have k3 := M1.out.cell 1 0 rfl rfl
  obtain ⟨g, cap', e, hg1, hg2, _, hcell, hth⟩ := O1.out.some_of2 (by omega)
  simp only [Value.slice.injEq] at e
  obtain ⟨rfl, _, rfl⟩ := e
  have kc := hcell j _ HV.out
  have kf := (hth j (by omega)).2
  have T2 := Lib.hid ((Turned.refl (S := fun k => k = g) (w := w1)).setCell (b := g) (j := j) (.int .i64 (y + 1)) (fun _ => rfl))
  have O2 := Lib.hid (O1.out.put rfl j (.int .i64 (y + 1)) hj)
  have G := Lib.hid (And.intro hg1 hg2)
  clear hb1 F hcell hth hg1 hg2 M0 O0 k1 k2
  go_wp2
  go_ret
  exact ⟨rfl, M1.out.turnedB T2.out (fun k e => by
    have := G.out.1
    subst e
    refine ⟨by omega, fun i o hi => ?_⟩
    match i, hi with
    | 0, hi => simp at hi; omega
    | 1, hi => simp at hi; omega
    | i + 2, hi => simp at hi), HSET.out ▸ O2.out⟩
end
end Go.Proofs.Ytcanbagnehdbiaa
