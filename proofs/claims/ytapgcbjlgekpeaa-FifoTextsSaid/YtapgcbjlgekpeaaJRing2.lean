/- Layer 7: a ring of ints, cloned. -/
import Derived.Test.YtapgcbjlgekpeaaJRingB
import Derived.WalkSpells
namespace Go.Proofs.Ytapgcbjlgekpeaa
open Go.ChangeShapes Go.WideShapes Go.ChangeAt Go.RowKit

set_option maxRecDepth 100000 in
theorem cloneI_nil (w : World) : Calls Try.prog 155 #[.slice none 0 0] w fun e w' => e = .returned (.slice none 0 0) ∧ w = w' := by
  have hq : ∀ (w : World), (binOp .eql 77 (.slice none 0 0) (.slice none 0 0)).run Try.prog w = .ok (.bool true) w := fun w => Lib.run_eql_slice_nil w 77 3 none 0 0 0 0 Try.underlying77
  go_enter Try.func155, Try.ntmps155
  go_wp2
  go_ret
  exact ⟨rfl, rfl⟩
set_option maxRecDepth 100000 in
theorem cloneI_some (g off n c : Nat) (xs : List Value) (hn : n ≤ 100000) (h1 : ∀ u ∈ xs, u.oneCell' = true) (w : World) (hs : Src w (.slice (some ⟨g, off, none⟩) n c) n 1 xs) :
    Calls Try.prog 155 #[.slice (some ⟨g, off, none⟩) n c] w fun e w' => ∃ v, e = .returned v ∧ Owns w' w.heap.size 1 v n xs ∧ Below w.heap.size w w' := by
  have hq : ∀ (w : World), (binOp .eql 77 (.slice (some ⟨g, off, none⟩) n c) (.slice none 0 0)).run Try.prog w = .ok (.bool false) w := fun w => Lib.run_eql_slice_nil w 77 3 (some ⟨g, off, none⟩) n c 0 0 Try.underlying77
  obtain ⟨p', c', e', hl, hz, hsc⟩ := hs.below (below1 w (.cells #[] 3))
  obtain ⟨rfl, rfl⟩ : p' = some ⟨g, off, none⟩ ∧ c' = c := by simp at e'; exact ⟨e'.1.symm, e'.2.symm⟩
  have HL := Lib.hid hl
  have HC := Lib.hid (fun ad h => (hsc ad h).2)
  have H1 := Lib.hid h1
  have O : Hid (Owns (w.alloc (.cells #[] 3)) w.heap.size 1 (.slice (some ⟨w.heap.size, 0, none⟩) 0 0) 0 []) :=
    ⟨rfl, .inr ⟨w.heap.size, 0, rfl, Nat.le_refl _, by simp, Nat.le_refl _, fun j u hu => by simp at hu, fun j hj => by simp at hj⟩⟩
  clear hl hz hsc e' hs h1
  go_enter Try.func155, Try.ntmps155
  go_wp2_with (at_builtin; refine wpList_append_any2 rfl _ _ 77 rfl w.heap.size 3 (.int .i64 0) 1 8 Try.underlying77 intInfo rfl (by decide) _ _ _ rfl O.out _ _ _ xs rfl (by rw [HL.out]) (fun h => by cases h) HC.out H1.out (by unfold maxLen; omega) (by omega) (by simp) ?_; intro u1 x1 ha1 hg1 hw1)
  go_ret
  exact ⟨_, rfl, by simpa using ha1, (below1 w _).grown hg1 (by simp) (fun k hk => Nat.le_of_eq (Option.some.inj (show some w.heap.size = some k from hk)))⟩

theorem RingAt.src {TR : TypeId} {w : World} {B r : Nat} {v : Value} {room first n : Nat} {xs : List Value} (h : RingAt TR 1 w B r v room first n xs) : Src w v n 1 xs := by
  by_cases h0 : n = 0
  · subst h0
    obtain rfl := h.void rfl
    obtain rfl : xs = [] := List.eq_nil_of_length_eq_zero (by simpa using h.owns.1)
    exact src_nil _ _
  · obtain ⟨g, cap, rfl, _⟩ := h.slice (by omega)
    have := (Owns.src h.owns 0 (by omega)).1
    simpa using this

end Go.Proofs.Ytapgcbjlgekpeaa
