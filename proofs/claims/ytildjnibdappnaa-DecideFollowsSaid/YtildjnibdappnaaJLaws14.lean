/- Layer 14: the laws, walked: the example. -/
import Derived.Test.YtildjnibdappnaaJRingB
import Derived.Test.YtildjnibdappnaaJAdv4
import Derived.Test.YtildjnibdappnaaJNone
namespace Go.Proofs.Ytildjnibdappnaa
open Go.ChangeShapes Go.WideShapes Go.ChangeAt Go.RowKit

set_option maxHeartbeats 2000000 in
set_option maxRecDepth 100000 in
theorem awake14 (w : World) : Calls Try.prog 12 #[] w fun e w' => e = .returned (.bool true) ∧ Below w.heap.size w w' := by
  have g1 : ∀ W : World, Calls Try.prog 13 #[.int .i64 1] W fun e w' => ∃ h r, e = .returned (.pointer (some ⟨h, 0, none⟩)) ∧ HistA w' W.heap.size h r (.slice none 0 0) 1 [] ∧ Below W.heap.size W w' := hist_new 1 (by omega) (by omega)
  have h1 := Lib.hid g1
  clear g1
  go_enter Try.func12, Try.ntmps12
  go_wp2_with fail
  (with_reducible refine (h1.out _).mono ?_)
  rintro e w1 ⟨h, r, rfl, hr, hb⟩
  have R1 := Lib.hid (hr.below (below1 w1 (.cells #[.int .i64 5, .int .i64 0, .int .i64 7, .int .i64 0, .int .i64 0] 24)))
  have B1 := Lib.hid (hb.alloc hb.size (.cells #[.int .i64 5, .int .i64 0, .int .i64 7, .int .i64 0, .int .i64 0] 24))
  have hrl := hr.ring.lt.1
  have K1 : Hid ((w1.alloc (.cells #[.int .i64 5, .int .i64 0, .int .i64 7, .int .i64 0, .int .i64 0] 24)).heap[w1.heap.size]? = some (.cells #[.int .i64 5, .int .i64 0, .int .i64 7, .int .i64 0, .int .i64 0] 24 (0, 0))) := heap_alloc_at _ _ _ rfl
  clear hr hb
  have p1 : Calls Try.prog 15 #[.pointer (some ⟨h, 0, none⟩), .agg #[.int .i64 5, .int .i64 0, .int .i64 7, .int .i64 0, .int .i64 0]] (w1.alloc (.cells #[.int .i64 5, .int .i64 0, .int .i64 7, .int .i64 0, .int .i64 0] 24)) fun e w' => e = .returned (.bool true) ∧
      ∃ v', HistA w' w.heap.size h r v' 1 [⟨5, 0, 7, 0, 0⟩] ∧ Turned (fun k => k = r ∨ (Value.slice none 0 0).ownBlock = some k) (w1.alloc (.cells #[.int .i64 5, .int .i64 0, .int .i64 7, .int .i64 0, .int .i64 0] 24)) w' ∧ (∀ k, v'.ownBlock = some k → (Value.slice none 0 0).ownBlock = some k ∨ (w1.alloc (.cells #[.int .i64 5, .int .i64 0, .int .i64 7, .int .i64 0, .int .i64 0] 24)).heap.size ≤ k) := hist_add R1.out B1.out.size ⟨5, 0, 7, 0, 0⟩
  have P1 := Lib.hid p1
  clear p1
  obtain ⟨X, eX⟩ : ∃ X, X = w1.heap.size := ⟨_, rfl⟩
  go_wp2_with fail
  (with_reducible refine P1.out.mono ?_)
  rintro e w3 ⟨rfl, v3, hr, ht, hw⟩
  have R3 := Lib.hid hr
  have B3 := Lib.hid (B1.out.trans (R1.out.pushed B1.out.size ht))
  have K3 : Hid (w3.heap[w1.heap.size]? = some (.cells #[.int .i64 5, .int .i64 0, .int .i64 7, .int .i64 0, .int .i64 0] 24 (0, 0))) := (ht.block _ (by simp) (fun e => by rcases e with e | e; omega; simp [Value.ownBlock] at e)).trans K1.out
  have W3 : Hid (v3.ownBlock ≠ some w1.heap.size) := fun e => by rcases hw _ e with h | h; simp [Value.ownBlock] at h; simp at h; omega
  clear hr ht hw P1 R1 B1 K1
  have p1 : Calls Try.prog 15 #[.pointer (some ⟨h, 0, none⟩), .agg #[.int .i64 6, .int .i64 0, .int .i64 0, .int .i64 0, .int .i64 0]] w3 fun e w' => e = .returned (.bool true) ∧
      ∃ v', HistA w' w.heap.size h r v' 1 [⟨6, 0, 0, 0, 0⟩] ∧ Turned (fun k => k = r ∨ v3.ownBlock = some k) w3 w' ∧ (∀ k, v'.ownBlock = some k → v3.ownBlock = some k ∨ w3.heap.size ≤ k) := hist_add R3.out B3.out.size ⟨6, 0, 0, 0, 0⟩
  have P1 := Lib.hid p1
  clear p1
  go_wp2_with fail
  (with_reducible refine P1.out.mono ?_)
  rintro e w4 ⟨rfl, v4, hr, ht, hw⟩
  have R4 := Lib.hid hr
  have B4 := Lib.hid (B3.out.trans (R3.out.pushed B3.out.size ht))
  have K4 : Hid (w4.heap[w1.heap.size]? = some (.cells #[.int .i64 5, .int .i64 0, .int .i64 7, .int .i64 0, .int .i64 0] 24 (0, 0))) := (ht.block _ (lt_of_heap K3.out) (fun e => by rcases e with e | e; omega; exact W3.out e)).trans K3.out
  clear hr ht hw P1 R3 B3 K3 W3
  have A4 : Hid (Advs (w4.alloc (.cells #[.int .i64 5, .int .i64 0, .int .i64 7, .int .i64 0, .int .i64 0] 24)) (some ⟨w4.heap.size, 0, none⟩) [⟨5, 0, 7, 0, 0⟩]) := advs_alloc _ _ _ _ rfl
  have f1 := history_highest (some ⟨w4.heap.size, 0, none⟩) 1 [⟨5, 0, 7, 0, 0⟩] 8 3 (by unfold I64; omega) (by unfold I64; omega) (by simp) _ A4.out
  have e1 : Adv.highest [⟨5, 0, 7, 0, 0⟩] (Sat.clamp (8 - 3)) 8 = (0, false) := by decide
  rw [e1] at f1
  have F1 : Hid (Calls Try.prog 21 #[.slice (some ⟨w4.heap.size, 0, none⟩) 1 1, .int .i64 8, .int .i64 3] (w4.alloc (.cells #[.int .i64 5, .int .i64 0, .int .i64 7, .int .i64 0, .int .i64 0] 24)) fun e w' => e = .returned (.tuple #[.int .i64 0, .bool false]) ∧ Below (w4.alloc (.cells #[.int .i64 5, .int .i64 0, .int .i64 7, .int .i64 0, .int .i64 0] 24)).heap.size (w4.alloc (.cells #[.int .i64 5, .int .i64 0, .int .i64 7, .int .i64 0, .int .i64 0] 24)) w') := f1
  clear f1 e1
  go_wp2_with ((with_reducible refine wpList_load_rowAs rfl 24 _ rfl (w1.heap.size) ?_ 24 #[.int .i64 5, .int .i64 0, .int .i64 7, .int .i64 0, .int .i64 0] (0, 0) _ 5 ?_ Try.underlying24 rfl (by kernel_rfl) ?_ ?_); exact rfl; exact K4.out; exact rfl)
  (with_reducible refine F1.out.mono ?_)
  rintro e w5 ⟨rfl, hb⟩
  have C5 : Below w4.heap.size w4 w5 := (below1 w4 (.cells #[.int .i64 5, .int .i64 0, .int .i64 7, .int .i64 0, .int .i64 0] 24)).trans (hb.mono (by simp))
  have R5 := Lib.hid (R4.out.below C5)
  have B5 := Lib.hid (B4.out.trans (C5.mono B4.out.size))
  have K5 := Lib.hid ((C5.block _ (lt_of_heap K4.out)).trans K4.out)
  clear hb C5 R4 B4 K4 F1 A4
  have A5 : Hid (Advs (w5.alloc (.cells #[.int .i64 5, .int .i64 0, .int .i64 7, .int .i64 0, .int .i64 0] 24)) (some ⟨w5.heap.size, 0, none⟩) [⟨5, 0, 7, 0, 0⟩]) := advs_alloc _ _ _ _ rfl
  have f1 := history_highest (some ⟨w5.heap.size, 0, none⟩) 1 [⟨5, 0, 7, 0, 0⟩] 8 4 (by unfold I64; omega) (by unfold I64; omega) (by simp) _ A5.out
  have e1 : Adv.highest [⟨5, 0, 7, 0, 0⟩] (Sat.clamp (8 - 4)) 8 = (7, true) := by decide
  rw [e1] at f1
  have F1 : Hid (Calls Try.prog 21 #[.slice (some ⟨w5.heap.size, 0, none⟩) 1 1, .int .i64 8, .int .i64 4] (w5.alloc (.cells #[.int .i64 5, .int .i64 0, .int .i64 7, .int .i64 0, .int .i64 0] 24)) fun e w' => e = .returned (.tuple #[.int .i64 7, .bool true]) ∧ Below (w5.alloc (.cells #[.int .i64 5, .int .i64 0, .int .i64 7, .int .i64 0, .int .i64 0] 24)).heap.size (w5.alloc (.cells #[.int .i64 5, .int .i64 0, .int .i64 7, .int .i64 0, .int .i64 0] 24)) w') := f1
  clear f1 e1
  go_wp2_with ((with_reducible refine wpList_load_rowAs rfl 24 _ rfl (w1.heap.size) ?_ 24 #[.int .i64 5, .int .i64 0, .int .i64 7, .int .i64 0, .int .i64 0] (0, 0) _ 5 ?_ Try.underlying24 rfl (by kernel_rfl) ?_ ?_); exact rfl; exact K5.out; exact rfl)
  (with_reducible refine F1.out.mono ?_)
  rintro e w6 ⟨rfl, hb⟩
  have C6 : Below w5.heap.size w5 w6 := (below1 w5 (.cells #[.int .i64 5, .int .i64 0, .int .i64 7, .int .i64 0, .int .i64 0] 24)).trans (hb.mono (by simp))
  have R6 := Lib.hid (R5.out.below C6)
  have B6 := Lib.hid (B5.out.trans (C6.mono B5.out.size))
  have L6 := Lib.hid (hist_list R6.out)
  clear hb C6 R5 B5 K5 F1 A5
  go_wp2_with fail
  (with_reducible refine L6.out.mono ?_)
  rintro e w7 ⟨p, c, rfl, _, hs, hb⟩
  have B7 := Lib.hid (B6.out.trans (hb.mono B6.out.size))
  have S7 : Hid (Advs (w7.alloc (.cells #[.int .i64 6, .int .i64 0, .int .i64 0, .int .i64 0, .int .i64 0] 24)) p [⟨6, 0, 0, 0, 0⟩]) := hs.below (below1 _ _)
  have T7 : Hid (Advs (w7.alloc (.cells #[.int .i64 6, .int .i64 0, .int .i64 0, .int .i64 0, .int .i64 0] 24)) (some ⟨w7.heap.size, 0, none⟩) [⟨6, 0, 0, 0, 0⟩]) := advs_alloc _ _ _ _ rfl
  have F7 := Lib.hid (ref14_same p (some ⟨w7.heap.size, 0, none⟩) 1 c 1 [⟨6, 0, 0, 0, 0⟩] rfl (by omega) _ S7.out T7.out)
  clear hs hb S7 T7 L6 R6
  go_wp2_with fail
  (with_reducible refine F7.out.mono ?_)
  rintro e w8 ⟨rfl, hb⟩
  have B8 := Lib.hid ((B7.out.alloc B7.out.size _).trans (hb.mono (by have := B7.out.size; simp; omega)))
  clear hb
  go_wp2
  go_ret
  exact ⟨rfl, B8.out⟩
end Go.Proofs.Ytildjnibdappnaa
