/- Layer 44: results compared; the law on what is judged. -/
import Derived.Test.YtildjnibdappnaaGreatJTri2
import Derived.Test.YtildjnibdappnaaGreatJTri3
import Derived.Test.YtildjnibdappnaaGreatJNone
namespace Go.Proofs.YtildjnibdappnaaGreat
open Go.ChangeShapes Go.WideShapes Go.ChangeAt Go.RowKit

set_option maxHeartbeats 2000000 in
set_option maxRecDepth 100000 in
theorem ref44_same (p q : Option Addr) (n c d : Nat) (l : List Adv) (hn : l.length = n) (hb : n ≤ 9223372036854775807) (C T a b x y : Int) (w : World) (hs : Advs w p l) (ht : Advs w q l) :
    Calls Tryz.prog 9 #[.agg #[.slice p n c, .int .i64 C, .int .i64 T, .int .i64 a, .int .i64 b, .int .i64 x, .int .i64 y], .agg #[.slice q n d, .int .i64 C, .int .i64 T, .int .i64 a, .int .i64 b, .int .i64 x, .int .i64 y]] w
      fun e w' => e = .returned (.bool true) ∧ Below w.heap.size w w' := by
  have f1 := fun W : World => fun h : Advs W p l => fun h2 : Advs W q l => ref14_same p q n c d l hn hb W h h2
  have F1 := Lib.hid f1
  have HS := Lib.hid hs
  have HT := Lib.hid ht
  clear f1 hs ht hn
  go_enter Tryz.func9, Tryz.ntmps9
  go_wp2_with fail
  (with_reducible refine (F1.out _ (HS.out.below (below2 _ _ _)) (HT.out.below (below2 _ _ _))).mono ?_)
  rintro e w1 ⟨rfl, hb1⟩
  have M1 := Lib.hid ((((Mem.start w).alloc (.cells #[.slice p n c, .int .i64 C, .int .i64 T, .int .i64 a, .int .i64 b, .int .i64 x, .int .i64 y] 34)).allocAs (w.heap.size + 1) (.cells #[.slice q n d, .int .i64 C, .int .i64 T, .int .i64 a, .int .i64 b, .int .i64 x, .int .i64 y] 34) (by simp)).call hb1)
  have a1 : w1.cell? ⟨w.heap.size, 1, none⟩ = some (.int .i64 C) := M1.out.cell 0 1 rfl rfl
  have a2 : w1.cell? ⟨w.heap.size, 2, none⟩ = some (.int .i64 T) := M1.out.cell 0 2 rfl rfl
  have a3 : w1.cell? ⟨w.heap.size, 3, none⟩ = some (.int .i64 a) := M1.out.cell 0 3 rfl rfl
  have a4 : w1.cell? ⟨w.heap.size, 4, none⟩ = some (.int .i64 b) := M1.out.cell 0 4 rfl rfl
  have a5 : w1.cell? ⟨w.heap.size, 5, none⟩ = some (.int .i64 x) := M1.out.cell 0 5 rfl rfl
  have a6 : w1.cell? ⟨w.heap.size, 6, none⟩ = some (.int .i64 y) := M1.out.cell 0 6 rfl rfl
  have b1 : w1.cell? ⟨w.heap.size + 1, 1, none⟩ = some (.int .i64 C) := M1.out.cell 1 1 rfl rfl
  have b2 : w1.cell? ⟨w.heap.size + 1, 2, none⟩ = some (.int .i64 T) := M1.out.cell 1 2 rfl rfl
  have b3 : w1.cell? ⟨w.heap.size + 1, 3, none⟩ = some (.int .i64 a) := M1.out.cell 1 3 rfl rfl
  have b4 : w1.cell? ⟨w.heap.size + 1, 4, none⟩ = some (.int .i64 b) := M1.out.cell 1 4 rfl rfl
  have b5 : w1.cell? ⟨w.heap.size + 1, 5, none⟩ = some (.int .i64 x) := M1.out.cell 1 5 rfl rfl
  have b6 : w1.cell? ⟨w.heap.size + 1, 6, none⟩ = some (.int .i64 y) := M1.out.cell 1 6 rfl rfl
  clear hb1
  go_wp2
  go_ret
  exact ⟨rfl, M1.out.below⟩

set_option maxHeartbeats 2000000 in
set_option maxRecDepth 100000 in
theorem awake44 (w : World) : Calls Tryz.prog 6 #[] w fun e w' => e = .returned (.bool true) ∧ Below w.heap.size w w' := by
  have h1 : ∀ W : World, Calls Tryz.prog 20 #[.agg #[.int .i64 0, .int .i64 0, .int .i64 100, .int .i64 0, .int .i64 0, .int .i64 0], .slice (some ⟨W.heap.size, 0, none⟩) 1 1] (W.alloc (.cells #[.int .i64 0, .int .i64 150, .int .i64 0, .int .i64 2, .int .i64 0] 53))
      fun e w' => ∃ q1 d, e = .returned (.agg #[.slice q1 1 d, .int .i64 0, .int .i64 0, .int .i64 2, .int .i64 2, .int .i64 50, .int .i64 0]) ∧ Below W.heap.size W w' := by
    intro W
    have := trial_judge ⟨0, 0, 100, 0, 0, 0⟩ (by unfold Pol.In I64; simp) (some ⟨W.heap.size, 0, none⟩) 1 1 [⟨0, 150, 0, 2, 0⟩] rfl (by intro a ha; simp at ha; subst ha; unfold Adv.In I64; simp) (by omega) (by simp) _ (advs_alloc W [⟨0, 150, 0, 2, 0⟩] 53 _ rfl)
    refine this.mono fun e w' ⟨q1, d, he, _, _, hb⟩ => ⟨q1, d, ?_, (below1 W _).trans (hb.mono (by simp))⟩
    rw [he]
    have e1 : Adv.changes (Adv.rep [⟨0, 150, 0, 2, 0⟩]) 1 = 0 := by decide +kernel
    have e2 : (Adv.turns (Adv.rep [⟨0, 150, 0, 2, 0⟩]) 1).1 = 0 := by decide +kernel
    have e3 : Tri.lo (Adv.rep [⟨0, 150, 0, 2, 0⟩]) 1 = 2 := by decide +kernel
    have e4 : Tri.hi (Adv.rep [⟨0, 150, 0, 2, 0⟩]) 1 = 2 := by decide +kernel
    have e5 : Tri.sp (Tri.left 100 [⟨0, 150, 0, 2, 0⟩]) 1 = 50 := by decide +kernel
    have e6 : Tri.sh (Tri.left 100 [⟨0, 150, 0, 2, 0⟩]) 1 = 0 := by decide +kernel
    simp only [e1, e2, e3, e4, e5, e6, Tri.row]
    rfl
  have h2 : ∀ W : World, Calls Tryz.prog 20 #[.agg #[.int .i64 0, .int .i64 0, .int .i64 0, .int .i64 0, .int .i64 0, .int .i64 0], .slice none 0 0] W
      fun e w' => ∃ q1 d, e = .returned (.agg #[.slice q1 0 d, .int .i64 0, .int .i64 0, .int .i64 0, .int .i64 0, .int .i64 0, .int .i64 0]) ∧ Below W.heap.size W w' := by
    intro W
    have := trial_judge ⟨0, 0, 0, 0, 0, 0⟩ (by unfold Pol.In I64; simp) none 0 0 [] rfl (by simp) (by omega) (by simp) W (.inl rfl)
    exact this.mono fun e w' ⟨q1, d, he, _, _, hb⟩ => ⟨q1, d, he, hb⟩
  have h3 : ∀ (W : World) (q : Option Addr) (d : Nat), Calls Tryz.prog 9 #[.agg #[.slice q 0 d, .int .i64 0, .int .i64 0, .int .i64 0, .int .i64 0, .int .i64 0, .int .i64 0], .agg #[.slice none 0 0, .int .i64 0, .int .i64 0, .int .i64 0, .int .i64 0, .int .i64 0, .int .i64 0]] W
      fun e w' => e = .returned (.bool true) ∧ Below W.heap.size W w' := fun W q d => ref44_same q none 0 d 0 [] rfl (by omega) 0 0 0 0 0 0 W (.inl rfl) (.inl rfl)
  have H1 := Lib.hid h1
  have H2 := Lib.hid h2
  have H3 := Lib.hid h3
  clear h1 h2 h3
  go_enter Tryz.func6, Tryz.ntmps6
  go_wp2_with fail
  (with_reducible refine (H1.out _).mono ?_)
  rintro e w1 ⟨q1, d1, rfl, hb1⟩
  have M1 := Lib.hid (((Mem.start w).call hb1).alloc (.cells #[.slice q1 1 d1, .int .i64 0, .int .i64 0, .int .i64 2, .int .i64 2, .int .i64 50, .int .i64 0] 28))
  clear hb1
  go_wp2_with ((with_reducible refine wpList_store_rowAs rfl 28 _ _ rfl (w1.heap.size) #[.slice q1 1 d1, .int .i64 0, .int .i64 0, .int .i64 2, .int .i64 2, .int .i64 50, .int .i64 0] ?_ ?_ 28 #[.slice none 0 0, .int .i64 0, .int .i64 0, .int .i64 0, .int .i64 0, .int .i64 0, .int .i64 0] 7 ?_ (by kernel_rfl) rfl rfl (by simp [Value.oneCell']) ?_); exact rfl; exact rfl; exact (heap_alloc_at _ _ _ rfl); (first | rw [row_1_0] | rw [row_2_0] | rw [row_2_1] | rw [row_3_0] | rw [row_3_1] | rw [row_3_2] | rw [row_4_0] | rw [row_4_1] | rw [row_4_2] | rw [row_4_3] | rw [row_5_0] | rw [row_5_1] | rw [row_5_2] | rw [row_5_3] | rw [row_5_4] | rw [row_6_0] | rw [row_6_1] | rw [row_6_2] | rw [row_6_3] | rw [row_6_4] | rw [row_6_5] | simp only [setRow_alloc_past, setRow_alloc_at, World.size_alloc, Nat.add_assoc, Nat.reduceAdd, Nat.lt_add_right_iff_pos, Nat.add_lt_add_iff_left, Nat.reduceLT, Nat.zero_lt_succ, Nat.lt_add_one]))
  (with_reducible refine (H2.out _).mono ?_)
  rintro e w2 ⟨q2, d2, rfl, hb2⟩
  have M2 := Lib.hid (M1.out.call hb2)
  clear hb2 M1
  go_wp2_with fail
  (with_reducible refine (H3.out _ _ _).mono ?_)
  rintro e w3 ⟨rfl, hb3⟩
  have M3 := Lib.hid (M2.out.call hb3)
  clear hb3 M2
  go_wp2
  go_ret
  exact ⟨rfl, M3.out.below⟩

end Go.Proofs.YtildjnibdappnaaGreat
