/- Layer 7: whether two slices of ints are the same, by the reference; the last ones. -/
import Derived.Test.YtjbapfdgkaiehaaSlice
namespace Go.Proofs.Ytjbapfdgkaiehaa
open Go.ChangeShapes Go.WideShapes Go.ChangeAt Go.RowKit

/-- The same numbers. -/
theorem same_from07 {a b : List Int} {k : Nat} (hk : k = a.length) (hl : a.length = b.length) (h : ∀ j, j < k → a[j]?.getD 0 = b[j]?.getD 0) : a = b := by
  apply List.ext_getElem hl
  intro i h1 h2
  have := h i (by omega)
  simpa [h1, h2] using this

set_option maxHeartbeats 1000000 in
set_option maxRecDepth 100000 in
theorem ref07_same (p q : Option Addr) (c d : Nat) (a b : List Int) (w : World) (ha : Ints .i64 w p a) (hb : Ints .i64 w q b) (la : a.length ≤ 9223372036854775807) (lb : b.length ≤ 9223372036854775807) :
    Calls Try.prog 33 #[.slice p a.length c, .slice q b.length d] w fun e w' => e = .returned (.bool (decide (a = b))) ∧ Below w.heap.size w w' := by
  have HA := Lib.hid ha
  have HB := Lib.hid hb
  have HYES : Hid (a = b → decide (a = b) = true) := fun h => decide_eq_true h
  have HNO : Hid (¬ a = b → decide (a = b) = false) := fun h => decide_eq_false h
  obtain ⟨r, hr⟩ : ∃ r, r = decide (a = b) := ⟨_, rfl⟩
  rw [← hr] at HYES HNO ⊢
  obtain ⟨n, hn⟩ : ∃ n, n = a.length := ⟨_, rfl⟩
  obtain ⟨m, hm⟩ : ∃ m, m = b.length := ⟨_, rfl⟩
  rw [← hn] at la ⊢
  rw [← hm] at lb ⊢
  have HN := Lib.hid hn
  have HM := Lib.hid hm
  clear ha hb hr hn hm
  by_cases hne : n = m
  · subst hne
    go_enter Try.func33, Try.ntmps33
    go_wp2
    go_loopw [5] (fun i wr => ∃ k : Nat, k ≤ n ∧ i = .int .i64 k ∧ (∀ j, j < k → a[j]?.getD 0 = b[j]?.getD 0) ∧ Below w.heap.size w wr) (fun i _ => n - (intOf i).toNat)
    case atStart => exact ⟨0, by omega, rfl, fun j hj => by omega, Below.refl _ _⟩
    case round =>
      obtain ⟨k, hk, rfl, hj, hBW⟩ := hrel
      have HJ := Lib.hid hj
      have HBW := Lib.hid hBW
      clear hj hBW
      by_cases hlt : k < n
      · obtain ⟨b1, o1, rfl, hb1, hc1⟩ := HA.out.pos (by have := HN.out; omega)
        obtain ⟨b2, o2, rfl, hb2, hc2⟩ := HB.out.pos (by have := HM.out; omega)
        have g1 := hc1 k (by have := HN.out; omega)
        have g2 := hc2 k (by have := HM.out; omega)
        rw [← HBW.out.cell (p := ⟨b1, o1 + k, none⟩) hb1] at g1
        rw [← HBW.out.cell (p := ⟨b2, o2 + k, none⟩) hb2] at g2
        have HX : Hid (a[k]?.getD 0 = b[k]?.getD 0 → ∀ j, j < k + 1 → a[j]?.getD 0 = b[j]?.getD 0) := fun h j hj => by
          by_cases e : j = k
          · rw [e]; exact h
          · exact HJ.out j (by omega)
        have HXN : Hid (¬ a[k]?.getD 0 = b[k]?.getD 0 → ¬ a = b) := fun h e => h (by rw [e])
        obtain ⟨x, ex⟩ : ∃ x, x = a[k]?.getD 0 := ⟨_, rfl⟩
        obtain ⟨y, ey⟩ : ∃ y, y = b[k]?.getD 0 := ⟨_, rfl⟩
        rw [← ex] at g1 HX HXN
        rw [← ey] at g2 HX HXN
        clear hc1 hc2 ex ey
        have i1 : (0 : Int) ≤ k := by omega
        have i2 : (k : Int) < n := by omega
        by_cases hxy : x = y
        · subst hxy
          have HX2 := Lib.hid (HX.out rfl)
          clear HX HXN
          go_wp2
          go_quiet (fail)
          go_wp2
          exact ⟨⟨k + 1, by omega, by go_num, HX2.out, below_drewN HBW.out nq⟩, by simp [intOf]; omega⟩
        · have HE := Lib.hid (HNO.out (HXN.out hxy))
          have hxb : (x == y) = false := beq_eq_false_iff_ne.2 hxy
          clear HX HXN
          go_wp2
          go_quiet (fail)
          go_wp2
          go_ret
          exact ⟨ret_bool HE.out.symm, below_drewN HBW.out _⟩
      · obtain rfl : k = n := by omega
        have HE := Lib.hid (HYES.out (same_from07 (k := k) HN.out (by rw [← HN.out, ← HM.out]) HJ.out))
        go_wp2
        go_ret
        exact ⟨ret_bool HE.out.symm, HBW.out⟩
  · have HE := Lib.hid (HNO.out (fun h => hne (by rw [HN.out, HM.out, h])))
    have hni : ¬ (n : Int) = m := by omega
    go_enter Try.func33, Try.ntmps33
    go_wp2
    go_ret
    exact ⟨ret_bool HE.out.symm, Below.refl _ _⟩


/-- The last so many. -/
def lastN {α : Type} (n : Nat) (l : List α) : List α := l.drop (l.length - n)
theorem lastN_len {α : Type} (n : Nat) (l : List α) : (lastN n l).length = min n l.length := by unfold lastN; rw [List.length_drop]; omega
theorem lastN_all {α : Type} {n : Nat} {l : List α} (h : l.length ≤ n) : lastN n l = l := by unfold lastN; rw [show l.length - n = 0 by omega]; rfl

theorem Ints.drop {w : World} {b off : Nat} {l : List Int} (h : Ints .i64 w (some ⟨b, off, none⟩) l) (k : Nat) : Ints .i64 w (some ⟨b, off + k, none⟩) (l.drop k) := by
  rcases h with h | ⟨b', off', hp, hb, hc⟩
  · left; rw [List.length_drop]; omega
  · right
    simp only [Option.some.injEq, Addr.mk.injEq, and_true] at hp
    obtain ⟨rfl, rfl⟩ := hp
    refine ⟨b, off + k, rfl, hb, fun j hj => ?_⟩
    rw [List.length_drop] at hj
    show w.cell? _ = some (Value.int .i64 ((l.drop k)[j]?.getD 0))
    rw [List.getElem?_drop, Nat.add_assoc]
    exact hc (k + j) (by omega)
theorem Ints.take {w : World} {p : Option Addr} {l : List Int} (h : Ints .i64 w p l) (k : Nat) : Ints .i64 w p (l.take k) := by
  rcases h with h | ⟨b', off', hp, hb, hc⟩
  · left; rw [List.length_take]; omega
  · right
    refine ⟨b', off', hp, hb, fun j hj => ?_⟩
    rw [List.length_take] at hj
    show w.cell? _ = some (Value.int .i64 ((l.take k)[j]?.getD 0))
    rw [List.getElem?_take_of_lt (by omega)]
    exact hc j (by omega)

set_option maxRecDepth 100000 in
theorem ref07_last (p : Option Addr) (cap : Nat) (l : List Int) (n : Nat) (hb : l.length ≤ 9223372036854775807) (hc : l.length ≤ cap) (hn : n ≤ 9223372036854775807) (hn1 : 1 ≤ n) (w : World) (hs : Ints .i64 w p l) :
    Calls Try.prog 35 #[.slice p l.length cap, .int .i64 n] w fun e w' => ∃ q c, e = .returned (.slice q (lastN n l).length c) ∧ Ints .i64 w q (lastN n l) ∧ w = w' := by
  by_cases h : l.length ≤ n
  · have HS := Lib.hid hs
    rw [lastN_all h]
    have HL : Hid (Ints .i64 w p l) := hs
    obtain ⟨m, em⟩ : ∃ m, m = l.length := ⟨_, rfl⟩
    rw [← em] at h hb hc ⊢
    clear em hs
    go_enter Try.func35, Try.ntmps35
    go_wp2
    go_ret
    exact ⟨_, _, rfl, HL.out, rfl⟩
  · obtain ⟨b, off, rfl, hbw, _⟩ := hs.pos (by omega)
    have hd := Ints.drop hs (l.length - n)
    have HL : Hid (Ints .i64 w (some ⟨b, off + (l.length - n), none⟩) (lastN n l)) := hd
    have HN : Hid ((lastN n l).length = n) := by show _ = _; rw [lastN_len]; omega
    obtain ⟨m, em⟩ : ∃ m, m = l.length := ⟨_, rfl⟩
    rw [← em] at h hb hc HL ⊢
    clear em hs hd
    go_enter Try.func35, Try.ntmps35
    go_wp2
    go_ret
    refine ⟨some ⟨b, off + (m - n), none⟩, cap - (m - n), ?_, HL.out, rfl⟩
    show Ending.returned (.slice (some ⟨b, off + (m - n), none⟩) (m - (m - n)) (cap - (m - n))) = _
    rw [HN.out, show m - (m - n) = n by omega]
end Go.Proofs.Ytjbapfdgkaiehaa
