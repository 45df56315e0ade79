/- Layer 7: the laws, walked. -/
import Derived.Test.YtjbapfdgkaiehaaRing
import Derived.Test.YtjbapfdgkaiehaaOpen
import Derived.Test.YtjbapfdgkaiehaaNone
namespace Go.Proofs.Ytjbapfdgkaiehaa
open Go.ChangeShapes Go.WideShapes Go.ChangeAt Go.RowKit

theorem stab_ints {p : Option Addr} {l : List Int} : Stab (fun w' => Ints .i64 w' p l) := fun _ _ h hb => Sl.below h hb
theorem stab_ringI {B r : Nat} {v : Value} {room : Nat} {L : List Int} : Stab (fun w' => RingI w' B r v room L) := fun _ _ h hb => h.below hb

set_option maxHeartbeats 1000000 in
set_option maxRecDepth 100000 in
theorem awake07 (w : World) : Calls Try.prog 30 #[] w fun e w' => e = .returned (.bool true) ∧ Below w.heap.size w w' := by
  have g1 : ∀ W : World, Calls Try.prog 31 #[.int .i64 2] W fun e w' => ∃ r, e = .returned (.pointer (some ⟨r, 0, none⟩)) ∧ RingI w' W.heap.size r (.slice none 0 0) 2 [] ∧ Below W.heap.size W w' := ringI_made 2 (by omega) (by omega)
  have h1 := Lib.hid g1
  have h2 := Lib.hid (ringI_new_no 0 (.inl (by omega)))
  clear g1
  go_enter Try.func30, Try.ntmps30
  go_wp2_with fail
  (with_reducible refine (h1.out _).mono ?_)
  rintro e w1 ⟨r, rfl, hr, hb⟩
  have R1 := Lib.hid hr
  have B1 := Lib.hid hb
  clear hr hb
  have p1 : Calls Try.prog 32 #[.pointer (some ⟨r, 0, none⟩), .int .i64 5] w1 fun e w' => e = .returned (.tuple #[.int .i64 0, .bool false]) ∧ ∃ v', RingI w' w.heap.size r v' 2 [5] ∧ Turned (fun k => k = r ∨ (Value.slice none 0 0).ownBlock = some k) w1 w' ∧ (∀ k, v'.ownBlock = some k → (Value.slice none 0 0).ownBlock = some k ∨ w1.heap.size ≤ k) := ringI_push R1.out B1.out.size 5
  have P1 := Lib.hid p1
  clear p1
  go_wp2_with fail
  (with_reducible refine P1.out.mono ?_)
  rintro e w2 ⟨rfl, v2, hr, ht, _⟩
  have R2 := Lib.hid hr
  have B2 := Lib.hid (B1.out.trans (R1.out.pushed B1.out.size ht))
  clear hr ht P1
  have p1 : Calls Try.prog 32 #[.pointer (some ⟨r, 0, none⟩), .int .i64 6] w2 fun e w' => e = .returned (.tuple #[.int .i64 0, .bool false]) ∧ ∃ v', RingI w' w.heap.size r v' 2 [5, 6] ∧ Turned (fun k => k = r ∨ v2.ownBlock = some k) w2 w' ∧ (∀ k, v'.ownBlock = some k → v2.ownBlock = some k ∨ w2.heap.size ≤ k) := ringI_push R2.out B2.out.size 6
  have P1 := Lib.hid p1
  clear p1
  go_wp2_with fail
  (with_reducible refine P1.out.mono ?_)
  rintro e w3 ⟨rfl, v3, hr, ht, _⟩
  have R3 := Lib.hid hr
  have B3 := Lib.hid (B2.out.trans (R2.out.pushed B2.out.size ht))
  clear hr ht P1
  have p1 : Calls Try.prog 32 #[.pointer (some ⟨r, 0, none⟩), .int .i64 7] w3 fun e w' => e = .returned (.tuple #[.int .i64 5, .bool true]) ∧ ∃ v', RingI w' w.heap.size r v' 2 [6, 7] ∧ Turned (fun k => k = r ∨ v3.ownBlock = some k) w3 w' ∧ (∀ k, v'.ownBlock = some k → v3.ownBlock = some k ∨ w3.heap.size ≤ k) := ringI_push R3.out B3.out.size 7
  have P1 := Lib.hid p1
  clear p1
  go_wp2_with fail
  (with_reducible refine P1.out.mono ?_)
  rintro e w4 ⟨rfl, v4, hr, ht, _⟩
  have R4 := Lib.hid hr
  have B4 := Lib.hid (B3.out.trans (R3.out.pushed B3.out.size ht))
  clear hr ht P1
  go_wp2_with fail
  (with_reducible refine (ringI_list R4.out).mono ?_)
  rintro e w5 ⟨p, c, rfl, hc, hs, hb⟩
  have B5 := Lib.hid (B4.out.trans (hb.mono B4.out.size))
  have S5 : Hid (Ints .i64 (w5.alloc (.cells #[.int .i64 6, .int .i64 7] 3)) p [6, 7]) := Sl.below hs (below1 _ _)
  have T5 : Hid (Ints .i64 (w5.alloc (.cells #[.int .i64 6, .int .i64 7] 3)) (some ⟨w5.heap.size, 0, none⟩) [6, 7]) := ints_alloc _ _ _ _ rfl
  have e5 := ref07_same p (some ⟨w5.heap.size, 0, none⟩) c 2 [6, 7] [6, 7] _ S5.out T5.out (by simp) (by simp)
  rw [show decide (([6, 7] : List Int) = [6, 7]) = true from decide_eq_true rfl] at e5
  have E5 : Hid (Calls Try.prog 33 #[.slice p 2 c, .slice (some ⟨w5.heap.size, 0, none⟩) 2 2] (w5.alloc (.cells #[.int .i64 6, .int .i64 7] 3)) fun e w' => e = .returned (.bool true) ∧ Below (w5.alloc (.cells #[.int .i64 6, .int .i64 7] 3)).heap.size (w5.alloc (.cells #[.int .i64 6, .int .i64 7] 3)) w') := e5
  clear hs hb hc e5
  go_wp2_with fail
  (with_reducible refine E5.out.mono ?_)
  rintro e w6 ⟨rfl, hb⟩
  have B6 := Lib.hid ((B5.out.alloc B5.out.size _).trans (hb.mono (by have := B5.out.size; simp; omega)))
  clear hb
  go_wp2_with ((with_reducible refine (h2.out _).mono ?_); rintro e w7 ⟨rfl, rfl⟩)
  go_ret
  exact ⟨rfl, B6.out⟩
end Go.Proofs.Ytjbapfdgkaiehaa
