/- Whether two slices are the same. -/
import Derived.Test.YtildjnibdappnaaSlice
namespace Go.Proofs.Ytildjnibdappnaa
open Go.ChangeShapes Go.WideShapes Go.ChangeAt Go.RowKit

/-- The same numbers. -/
theorem same_from {a b : List Int} {k : Nat} (hk : k = a.length) (hl : a.length = b.length) (h : ∀ j, j < k → a[j]?.getD 0 = b[j]?.getD 0) : a = b := by
  apply List.ext_getElem hl
  intro i h1 h2
  have := h i (by omega)
  simpa [h1, h2] using this

set_option maxHeartbeats 1000000 in
set_option maxRecDepth 100000 in
theorem ref_same (p q : Option Addr) (c d : Nat) (a b : List Int) (w : World) (ha : Ints .i64 w p a) (hb : Ints .i64 w q b) (la : a.length ≤ 9223372036854775807) (lb : b.length ≤ 9223372036854775807) :
    Calls Try.prog 35 #[.slice p a.length c, .slice q b.length d] w fun e w' => e = .returned (.bool (decide (a = b))) ∧ Below w.heap.size w w' := by
  have HA := Lib.hid ha
  have HB := Lib.hid hb
  have HYES : Hid (a = b → decide (a = b) = true) := fun h => decide_eq_true h
  have HNO : Hid (¬ a = b → decide (a = b) = false) := fun h => decide_eq_false h
  obtain ⟨r, hr⟩ : ∃ r, r = decide (a = b) := ⟨_, rfl⟩
  rw [← hr] at HYES HNO ⊢
  obtain ⟨n, hn⟩ : ∃ n, n = a.length := ⟨_, rfl⟩
  obtain ⟨m, hm⟩ : ∃ m, m = b.length := ⟨_, rfl⟩
  rw [← hn] at la ⊢
  rw [← hm] at lb ⊢
  have HN := Lib.hid hn
  have HM := Lib.hid hm
  clear ha hb hr hn hm
  by_cases hne : n = m
  · subst hne
    go_enter Try.func35, Try.ntmps35
    go_wp2
    go_loopw [5] (fun i wr => ∃ k : Nat, k ≤ n ∧ i = .int .i64 k ∧ (∀ j, j < k → a[j]?.getD 0 = b[j]?.getD 0) ∧ Below w.heap.size w wr) (fun i _ => n - (intOf i).toNat)
    case atStart => exact ⟨0, by omega, rfl, fun j hj => by omega, Below.refl _ _⟩
    case round =>
      obtain ⟨k, hk, rfl, hj, hBW⟩ := hrel
      have HJ := Lib.hid hj
      have HBW := Lib.hid hBW
      clear hj hBW
      by_cases hlt : k < n
      · obtain ⟨b1, o1, rfl, hb1, hc1⟩ := HA.out.pos (by have := HN.out; omega)
        obtain ⟨b2, o2, rfl, hb2, hc2⟩ := HB.out.pos (by have := HM.out; omega)
        have g1 := hc1 k (by have := HN.out; omega)
        have g2 := hc2 k (by have := HM.out; omega)
        rw [← HBW.out.cell (p := ⟨b1, o1 + k, none⟩) hb1] at g1
        rw [← HBW.out.cell (p := ⟨b2, o2 + k, none⟩) hb2] at g2
        have HX : Hid (a[k]?.getD 0 = b[k]?.getD 0 → ∀ j, j < k + 1 → a[j]?.getD 0 = b[j]?.getD 0) := fun h j hj => by
          by_cases e : j = k
          · rw [e]; exact h
          · exact HJ.out j (by omega)
        have HXN : Hid (¬ a[k]?.getD 0 = b[k]?.getD 0 → ¬ a = b) := fun h e => h (by rw [e])
        obtain ⟨x, ex⟩ : ∃ x, x = a[k]?.getD 0 := ⟨_, rfl⟩
        obtain ⟨y, ey⟩ : ∃ y, y = b[k]?.getD 0 := ⟨_, rfl⟩
        rw [← ex] at g1 HX HXN
        rw [← ey] at g2 HX HXN
        clear hc1 hc2 ex ey
        have i1 : (0 : Int) ≤ k := by omega
        have i2 : (k : Int) < n := by omega
        by_cases hxy : x = y
        · subst hxy
          have HX2 := Lib.hid (HX.out rfl)
          clear HX HXN
          go_wp2
          go_quiet (fail)
          go_wp2
          exact ⟨⟨k + 1, by omega, by go_num, HX2.out, below_drewN HBW.out nq⟩, by simp [intOf]; omega⟩
        · have HE := Lib.hid (HNO.out (HXN.out hxy))
          have hxb : (x == y) = false := beq_eq_false_iff_ne.2 hxy
          clear HX HXN
          go_wp2
          go_quiet (fail)
          go_wp2
          go_ret
          exact ⟨ret_bool HE.out.symm, below_drewN HBW.out _⟩
      · obtain rfl : k = n := by omega
        have HE := Lib.hid (HYES.out (same_from (k := k) HN.out (by rw [← HN.out, ← HM.out]) HJ.out))
        go_wp2
        go_ret
        exact ⟨ret_bool HE.out.symm, HBW.out⟩
  · have HE := Lib.hid (HNO.out (fun h => hne (by rw [HN.out, HM.out, h])))
    have hni : ¬ (n : Int) = m := by omega
    go_enter Try.func35, Try.ntmps35
    go_wp2
    go_ret
    exact ⟨ret_bool HE.out.symm, Below.refl _ _⟩

end Go.Proofs.Ytildjnibdappnaa
