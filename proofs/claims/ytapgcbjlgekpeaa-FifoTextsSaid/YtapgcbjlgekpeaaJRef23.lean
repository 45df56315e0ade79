/- Layer 23: the reference: a list without the first of a number; whether a number is there. -/
import Derived.Test.YtapgcbjlgekpeaaJFifoI3
import Derived.Test.YtapgcbjlgekpeaaJRingB
namespace Go.Proofs.Ytapgcbjlgekpeaa
open Go.ChangeShapes Go.WideShapes Go.ChangeAt Go.RowKit

set_option maxHeartbeats 1000000 in
set_option maxRecDepth 100000 in
theorem ref23_has (p : Option Addr) (cap : Nat) (l : List Int) (hb : l.length ≤ 100000) (x : Int) (w : World) (hs : Ints .i64 w p l) :
    Calls Try.prog 50 #[.slice p l.length cap, .int .i64 x] w fun e w' => e = .returned (.bool (decide (x ∈ l))) ∧ Below w.heap.size w w' := by
  have HS := Lib.hid hs
  have HY : Hid (∀ k : Nat, l[k]? = some x → x ∈ l) := fun k h => List.mem_of_getElem? h
  have HN : Hid ((∀ j, j < l.length → l[j]? ≠ some x) → x ∉ l) := fun h hm => by
    obtain ⟨k, hk⟩ := List.mem_iff_getElem?.1 hm
    exact h k (List.getElem?_eq_some_iff.1 hk).1 hk
  obtain ⟨n, en⟩ : ∃ n, n = l.length := ⟨_, rfl⟩
  have EN := Lib.hid en
  rw [← en] at hb HN ⊢
  clear hs en
  go_enter Try.func50, Try.ntmps50
  go_wp2
  go_loopw [5] (fun i wr => ∃ k : Nat, k ≤ n ∧ i = .int .i64 (k : Nat) ∧ (∀ j, j < k → l[j]? ≠ some x) ∧ w = wr) (fun i _ => n - (intOf i).toNat)
  case atStart => exact ⟨0, by omega, rfl, fun j hj => by omega, rfl⟩
  case round =>
    obtain ⟨k, hk, rfl, hno, rfl⟩ := hrel
    by_cases hlt : k < n
    · have hkl : k < l.length := by have := EN.out; omega
      obtain ⟨b, off, rfl, hbw, hc⟩ := HS.out.pos (by omega)
      have hcx := hc k (by omega)
      obtain ⟨y, ey⟩ : ∃ y, l[k]? = some y := ⟨_, List.getElem?_eq_getElem hkl⟩
      rw [show l[k]?.getD 0 = y by rw [ey]; rfl] at hcx
      have HNO := Lib.hid hno
      have i0 : (0 : Int) ≤ (k : Int) := by omega
      have i1 : (k : Int) < n := by omega
      by_cases hxy : y = x
      · have HR := Lib.hid (HY.out k (by rw [← hxy]; exact ey))
        subst hxy
        clear hno hc ey hkl
        go_wp2
        go_ret
        exact ⟨ret_bool (decide_eq_true HR.out).symm, Below.refl _ _⟩
      · have HN2 : Hid (∀ j, j < k + 1 → l[j]? ≠ some x) := fun j hj => by
          by_cases e : j = k
          · rw [e, ey]; intro h; exact hxy (Option.some.inj h)
          · exact HNO.out j (by omega)
        have hxb : (y == x) = false := beq_eq_false_iff_ne.2 hxy
        clear hno hc ey hkl
        go_wp2
        exact ⟨⟨k + 1, by omega, by go_num, HN2.out, (by first | rfl | trivial)⟩, by simp [intOf]; omega⟩
    · obtain rfl : k = n := by omega
      have HR := Lib.hid (HN.out hno)
      clear hno
      go_wp2
      go_ret
      exact ⟨ret_bool (decide_eq_false HR.out).symm, Below.refl _ _⟩

/-- What Drop hands back: the list itself, or a new one. -/
def DropOf (w : World) (q : Option Addr) (c : Nat) (L : List Int) (x : Int) (e : Ending) (w' : World) : Prop :=
  (x ∉ L ∧ e = .returned (.tuple #[.slice q L.length c, .bool false]) ∧ Below w.heap.size w w') ∨ (x ∈ L ∧ ∃ u, e = .returned (.tuple #[u, .bool true]) ∧ Owns w' w.heap.size 1 u (Fi.drop L x).length (intVals (Fi.drop L x)) ∧ Below w.heap.size w w')

set_option maxHeartbeats 1000000 in
set_option maxRecDepth 100000 in
theorem ref23_drop (p : Option Addr) (cap : Nat) (l : List Int) (hb : l.length ≤ 100000) (hcap : l.length ≤ cap) (x : Int) (w : World) (hs : Ints .i64 w p l) :
    Calls Try.prog 42 #[.slice p l.length cap, .int .i64 x] w (DropOf w p cap l x) := by
  have HS := Lib.hid hs
  have HY : Hid (∀ k : Nat, l[k]? = some x → (∀ j, j < k → l[j]? ≠ some x) → x ∈ l ∧ Fi.drop l x = l.take k ++ l.drop (k + 1)) := fun k h h2 => by
    refine ⟨List.mem_of_getElem? h, ?_⟩
    have e := Fi.idx_of h h2
    unfold Fi.drop
    rw [e, if_pos (List.getElem?_eq_some_iff.1 h).1]
  have HN : Hid ((∀ j, j < l.length → l[j]? ≠ some x) → x ∉ l) := fun h hm => by
    obtain ⟨k, hk⟩ := List.mem_iff_getElem?.1 hm
    exact h k (List.getElem?_eq_some_iff.1 hk).1 hk
  obtain ⟨D, eD⟩ : ∃ D, D = DropOf w p cap l x := ⟨_, rfl⟩
  have HD : Hid (∀ e w', ((x ∉ l ∧ e = .returned (.tuple #[.slice p l.length cap, .bool false]) ∧ Below w.heap.size w w') ∨ (x ∈ l ∧ ∃ u, e = .returned (.tuple #[u, .bool true]) ∧ Owns w' w.heap.size 1 u (Fi.drop l x).length (intVals (Fi.drop l x)) ∧ Below w.heap.size w w')) → D e w') := fun e w' h => by rw [eD]; exact h
  rw [← eD]
  obtain ⟨n, en⟩ : ∃ n, n = l.length := ⟨_, rfl⟩
  have EN := Lib.hid en
  rw [← en] at hb hcap HN HD ⊢
  clear hs en eD
  go_enter Try.func42, Try.ntmps42
  go_wp2
  go_loopw [6] (fun i wr => ∃ k : Nat, k ≤ n ∧ i = .int .i64 (k : Nat) ∧ (∀ j, j < k → l[j]? ≠ some x) ∧ w = wr) (fun i _ => n - (intOf i).toNat)
  case atStart => exact ⟨0, by omega, rfl, fun j hj => by omega, rfl⟩
  case round =>
    obtain ⟨k, hk, rfl, hno, rfl⟩ := hrel
    by_cases hlt : k < n
    · have hkl : k < l.length := by have := EN.out; omega
      obtain ⟨b, off, rfl, hbw, hc⟩ := HS.out.pos (by omega)
      have hcx := hc k (by omega)
      obtain ⟨y, ey⟩ : ∃ y, l[k]? = some y := ⟨_, List.getElem?_eq_getElem hkl⟩
      rw [show l[k]?.getD 0 = y by rw [ey]; rfl] at hcx
      have HNO := Lib.hid hno
      have i0 : (0 : Int) ≤ (k : Int) := by omega
      have i1 : (k : Int) < n := by omega
      have i2 : (k : Int) ≤ cap := by omega
      by_cases hxy : y = x
      · obtain ⟨hr1, hr2⟩ := HY.out k (by rw [← hxy]; exact ey) HNO.out
        have HR1 := Lib.hid hr1
        have HR2 := Lib.hid hr2
        subst hxy
        have O1 := Lib.hid (owns_alloc w #[] 3 (B := w.heap.size) (sz := 1) (n := 0) (Nat.le_refl _) rfl)
        have N1 : Hid (∀ (W : World), Below w.heap.size w W → ∀ ad, some (⟨b, off, none⟩ : Addr) = some ad → ∀ j u, (intVals (l.take k))[j]? = some u → W.cell? (ad.add j) = some u) := by
          intro W hW ad had j u hu
          obtain rfl : ad = ⟨b, off, none⟩ := by simpa using had.symm
          have hjl : j < k := by have := (List.getElem?_eq_some_iff.1 hu).1; simp [intVals] at this; omega
          have hadd : (⟨b, off, none⟩ : Addr).add j = ⟨b, off + j, none⟩ := by unfold Addr.add; split <;> simp_all
          rw [hadd, hW.cell (p := ⟨b, off + j, none⟩) hbw, hc j (by have := EN.out; omega), ← hu]
          have hjl2 : j < l.length := by omega
          simp [intVals, List.getElem?_take_of_lt hjl, hjl2]
        have N2 : Hid (∀ (W : World), Below w.heap.size w W → ∀ o2, (k + 1 = n ∨ o2 = off + (k + 1)) → ∀ ad, some (⟨b, o2, none⟩ : Addr) = some ad → ∀ j u, (intVals (l.drop (k + 1)))[j]? = some u → W.cell? (ad.add j) = some u) := by
          intro W hW o2 ho2 ad had j u hu
          obtain rfl : ad = ⟨b, o2, none⟩ := by simpa using had.symm
          have hjl : j < l.length - (k + 1) := by have := (List.getElem?_eq_some_iff.1 hu).1; simpa [intVals] using this
          obtain rfl : o2 = off + (k + 1) := by rcases ho2 with h | h; have := EN.out; omega; exact h
          have hadd : (⟨b, off + (k + 1), none⟩ : Addr).add j = ⟨b, off + (k + 1 + j), none⟩ := by unfold Addr.add; split <;> simp_all <;> omega
          rw [hadd, hW.cell (p := ⟨b, off + (k + 1 + j), none⟩) hbw, hc (k + 1 + j) (by omega), ← hu]
          have hjl2 : k + 1 + j < l.length := by omega
          simp [intVals, List.getElem?_drop, hjl2]
        have hl1 : (intVals (l.take k)).length = k * 1 := by simp [intVals]; omega
        have hl2 : (intVals (l.drop (k + 1))).length = (n - (k + 1)) * 1 := by have := EN.out; simp [intVals]; omega
        have hlen : (l.take k ++ l.drop (k + 1)).length = 0 + k + (n - (k + 1)) := by have := EN.out; rw [List.length_append, List.length_take, List.length_drop]; omega
        have HL1 := Lib.hid hl1
        have HL2 := Lib.hid hl2
        have HLE := Lib.hid hlen
        have mx1 : 0 + k ≤ maxLen := by unfold maxLen; omega
        have mx2 : 0 + k + (n - (k + 1)) ≤ maxLen := by unfold maxLen; omega
        have by1 : (0 + k) * 8 ≤ 140737488355328 := by omega
        have by2 : (0 + k + (n - (k + 1))) * 8 ≤ 140737488355328 := by omega
        have BA := Lib.hid (below1 w (.cells #[] 3))
        have bs1 : w.heap.size ≤ (w.alloc (.cells #[] 3)).heap.size := by simp
        clear hno hc ey hkl hr1 hr2 hl1 hl2 hlen
        by_cases hce : cap = k + 1
        · subst hce
          obtain rfl : n = k + 1 := by omega
          go_wp2_with (first | (at_builtin; refine wpList_append_any rfl _ _ 77 rfl w.heap.size 3 (.int .i64 0) 1 8 Try.underlying77 fifoI_info rfl (by decide) (.slice (some ⟨w.heap.size, 0, none⟩) 0 0) 0 [] rfl O1.out (some ⟨b, off, none⟩) k (k + 1) (intVals (l.take k)) rfl HL1.out (by intro h; cases h) (N1.out _ BA.out) (intVals_one2 _) mx1 by1 bs1 ?_; intro u1 x1 ha1 hg1; have HA1 := Lib.hid ha1; have HB1 := Lib.hid (BA.out.grown hg1 bs1 (fun y hy => by simp [Value.ownBlock] at hy; omega)); clear ha1 hg1) | (at_builtin; refine wpList_append_any rfl _ _ 77 rfl w.heap.size 3 (.int .i64 0) 1 8 Try.underlying77 fifoI_info rfl (by decide) u1 (0 + k) ([] ++ intVals (l.take k)) rfl HA1.out (some ⟨b, off, none⟩) 0 0 [] rfl rfl (by intro h; cases h) (by intro ad _ j u hu; simp at hu) (by intro u hu; simp at hu) mx1 by1 HB1.out.size ?_; intro u2 x2 ha2 hg2; have HA2 := Lib.hid ha2; have HB2 := Lib.hid (HB1.out.grown hg2 HB1.out.size (fun y hy => (HA1.out.lt y hy).1)); clear ha2 hg2))
          try go_ret2
          refine HD.out _ _ (.inr ⟨HR1.out, _, rfl, ?_, HB2.out⟩)
          have hd0 : l.drop (k + 1) = [] := List.drop_of_length_le (by have := EN.out; omega)
          rw [HR2.out, hd0, List.append_nil]
          have hlt2 : (l.take k).length = 0 + k + 0 := by have := HL1.out; simp [intVals] at this ⊢; omega
          rw [hlt2]
          have := HA2.out
          rw [List.nil_append, List.append_nil] at this
          exact this
        · have hc2 : ¬ cap - (k + 1) = 0 := by omega
          go_wp2_with (first | (at_builtin; refine wpList_append_any rfl _ _ 77 rfl w.heap.size 3 (.int .i64 0) 1 8 Try.underlying77 fifoI_info rfl (by decide) (.slice (some ⟨w.heap.size, 0, none⟩) 0 0) 0 [] rfl O1.out (some ⟨b, off, none⟩) k cap (intVals (l.take k)) rfl HL1.out (by intro h; cases h) (N1.out _ BA.out) (intVals_one2 _) mx1 by1 bs1 ?_; intro u1 x1 ha1 hg1; have HA1 := Lib.hid ha1; have HB1 := Lib.hid (BA.out.grown hg1 bs1 (fun y hy => by simp [Value.ownBlock] at hy; omega)); clear ha1 hg1) | (at_builtin; refine wpList_append_any rfl _ _ 77 rfl w.heap.size 3 (.int .i64 0) 1 8 Try.underlying77 fifoI_info rfl (by decide) u1 (0 + k) ([] ++ intVals (l.take k)) rfl HA1.out (some ⟨b, off + (k + 1), none⟩) (n - (k + 1)) (cap - (k + 1)) (intVals (l.drop (k + 1))) rfl HL2.out (by intro h; cases h) (N2.out _ HB1.out _ (.inr rfl)) (intVals_one2 _) mx2 by2 HB1.out.size ?_; intro u2 x2 ha2 hg2; have HA2 := Lib.hid ha2; have HB2 := Lib.hid (HB1.out.grown hg2 HB1.out.size (fun y hy => (HA1.out.lt y hy).1)); clear ha2 hg2))
          try go_ret2
          refine HD.out _ _ (.inr ⟨HR1.out, _, rfl, ?_, HB2.out⟩)
          rw [HR2.out, HLE.out]
          have := HA2.out
          rw [List.nil_append] at this
          rw [show intVals (l.take k ++ l.drop (k + 1)) = intVals (l.take k) ++ intVals (l.drop (k + 1)) by simp [intVals]]
          exact this
      · have HN2 : Hid (∀ j, j < k + 1 → l[j]? ≠ some x) := fun j hj => by
          by_cases e : j = k
          · rw [e, ey]; intro h; exact hxy (Option.some.inj h)
          · exact HNO.out j (by omega)
        have hxb : (y == x) = false := beq_eq_false_iff_ne.2 hxy
        clear hno hc ey hkl
        go_wp2
        exact ⟨⟨k + 1, by omega, by go_num, HN2.out, (by first | rfl | trivial)⟩, by simp [intOf]; omega⟩
    · obtain rfl : k = n := by omega
      have HR := Lib.hid (HN.out hno)
      clear hno
      go_wp2
      try go_ret2
      exact HD.out _ _ (.inl ⟨HR.out, rfl, Below.refl _ _⟩)
end Go.Proofs.Ytapgcbjlgekpeaa
