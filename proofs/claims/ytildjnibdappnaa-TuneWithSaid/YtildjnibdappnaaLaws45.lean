/- Layer 45: the law, walked: a policy with one number changed; numbers that rise. -/
import Derived.Test.YtildjnibdappnaaTune3
import Derived.Test.YtildjnibdappnaaEach
import Derived.Test.YtildjnibdappnaaStab
import Derived.Test.YtildjnibdappnaaEq
import Derived.Test.YtildjnibdappnaaStructs
namespace Go.Proofs.Ytildjnibdappnaa
open Go.ChangeShapes Go.WideShapes Go.ChangeAt Go.RowKit

theorem pol_field5 (a b c d e f : Int) (w : World) : (Instr.field 44 (.agg #[.int .i64 a, .int .i64 b, .int .i64 c, .int .i64 d, .int .i64 e, .int .i64 f]) 5).run Try.prog w = .ok (.int .i64 f) w := by kernel_rfl
theorem stab_ints45 {q : Option Addr} {l : List Int} : Stab (fun w' => Ints .i64 w' q l) := fun _ _ h hb => h.below hb

set_option maxRecDepth 100000 in
theorem law45_usual (w : World) : Calls Try.prog 70 #[] w fun e w' => e = .returned (.agg #[.int .i64 1, .int .i64 10, .int .i64 100, .int .i64 100, .int .i64 5, .int .i64 3]) ∧ Below w.heap.size w w' := by
  go_enter Try.func70, Try.ntmps70
  go_wp2_with ((with_reducible refine wpList_store_rowAs rfl 44 _ _ rfl (w.heap.size) #[.int .i64 1, .int .i64 10, .int .i64 100, .int .i64 100, .int .i64 5, .int .i64 3] ?_ ?_ 44 #[.int .i64 0, .int .i64 0, .int .i64 0, .int .i64 0, .int .i64 0, .int .i64 0] 6 ?_ (by kernel_rfl) rfl rfl (by simp [Value.oneCell']) ?_); exact rfl; exact rfl; exact (by first | (with_reducible exact heap_1_0 _ _) | (with_reducible exact heap_2_0 _ _ _) | (with_reducible exact heap_2_1 _ _ _) | (with_reducible exact heap_3_0 _ _ _ _) | (with_reducible exact heap_3_1 _ _ _ _) | (with_reducible exact heap_3_2 _ _ _ _) | (with_reducible exact heap_4_0 _ _ _ _ _) | (with_reducible exact heap_4_1 _ _ _ _ _) | (with_reducible exact heap_4_2 _ _ _ _ _) | (with_reducible exact heap_4_3 _ _ _ _ _) | (with_reducible exact heap_5_0 _ _ _ _ _ _) | (with_reducible exact heap_5_1 _ _ _ _ _ _) | (with_reducible exact heap_5_2 _ _ _ _ _ _) | (with_reducible exact heap_5_3 _ _ _ _ _ _) | (with_reducible exact heap_5_4 _ _ _ _ _ _) | (with_reducible exact heap_6_0 _ _ _ _ _ _ _) | (with_reducible exact heap_6_1 _ _ _ _ _ _ _) | (with_reducible exact heap_6_2 _ _ _ _ _ _ _) | (with_reducible exact heap_6_3 _ _ _ _ _ _ _) | (with_reducible exact heap_6_4 _ _ _ _ _ _ _) | (with_reducible exact heap_6_5 _ _ _ _ _ _ _) | simp only [heap_alloc_past, heap_alloc_at, World.size_alloc, Nat.add_assoc, Nat.reduceAdd, Nat.lt_add_right_iff_pos, Nat.add_lt_add_iff_left, Nat.reduceLT, Nat.zero_lt_succ, Nat.lt_add_one]); (first | rw [row_1_0] | rw [row_2_0] | rw [row_2_1] | rw [row_3_0] | rw [row_3_1] | rw [row_3_2] | rw [row_4_0] | rw [row_4_1] | rw [row_4_2] | rw [row_4_3] | rw [row_5_0] | rw [row_5_1] | rw [row_5_2] | rw [row_5_3] | rw [row_5_4] | rw [row_6_0] | rw [row_6_1] | rw [row_6_2] | rw [row_6_3] | rw [row_6_4] | rw [row_6_5] | simp only [setRow_alloc_past, setRow_alloc_at, World.size_alloc, Nat.add_assoc, Nat.reduceAdd, Nat.lt_add_right_iff_pos, Nat.add_lt_add_iff_left, Nat.reduceLT, Nat.zero_lt_succ, Nat.lt_add_one]))
  exact bodyPost_ret (results_cell_row rfl _ _ w.heap.size 44 #[.int .i64 1, .int .i64 10, .int .i64 100, .int .i64 100, .int .i64 5, .int .i64 3] (0, 0) _ rfl (heap_alloc_at _ _ _ rfl) Try.underlying44 rfl polInfo) rfl ⟨rfl, below1 _ _⟩

set_option maxHeartbeats 1000000 in
set_option maxRecDepth 100000 in
theorem awake45 (w : World) : Calls Try.prog 32 #[] w fun e w' => e = .returned (.bool true) ∧ Below w.heap.size w w' := by
  have f1 := tune_ladder 0 10 (by unfold I64; omega) (by unfold I64; omega) 3 (by unfold I64; omega) w
  rw [show Lad.of 0 10 3 = [0, 5, 10] by decide +kernel] at f1
  have f2 : ∀ (p : Option Addr) (c : Nat) (W : World), Ints .i64 W p [0, 5, 10] → Calls Try.prog 35 #[.slice p 3 c, .slice (some ⟨W.heap.size, 0, none⟩) 3 3] (W.alloc (.cells #[.int .i64 0, .int .i64 5, .int .i64 10] 2)) fun e w' => e = .returned (.bool true) ∧ Below W.heap.size W w' := by
    intro p c W h
    have hb1 : Below W.heap.size W (W.alloc (.cells #[.int .i64 0, .int .i64 5, .int .i64 10] 2)) := below1 _ _
    have := ref_same p (some ⟨W.heap.size, 0, none⟩) c 3 [0, 5, 10] [0, 5, 10] _ (h.below hb1) (ints_alloc W [0, 5, 10] 2 _ rfl) (by simp) (by simp)
    rw [decide_eq_true rfl] at this
    exact this.mono fun e w' ⟨a, b⟩ => ⟨a, hb1.trans (b.mono hb1.size)⟩
  have f3 := fun W : World => tune_with ⟨1, 10, 100, 100, 5, 3⟩ 6 0 W
  rw [show Pol.with ⟨1, 10, 100, 100, 5, 3⟩ 6 0 = ⟨1, 10, 100, 100, 5, 0⟩ from rfl] at f3
  have F1 := Lib.hid f1
  have F2 := Lib.hid f2
  have F3 := Lib.hid f3
  have FU := Lib.hid law45_usual
  clear f1 f2 f3
  go_enter Try.func32, Try.ntmps32
  go_wp2_with fail
  (with_reducible refine F1.out.mono ?_)
  rintro e w1 ⟨p, c, rfl, _, hs, hb1⟩
  have HS := Lib.hid hs
  have B1 := Lib.hid hb1
  clear hs hb1
  go_wp2_with fail
  (with_reducible refine (F2.out p c w1 HS.out).mono ?_)
  rintro e w2 ⟨rfl, hb2⟩
  have B2 := Lib.hid (B1.out.trans (hb2.mono B1.out.size))
  clear hb2
  go_wp2_with fail
  (with_reducible refine (FU.out _).mono ?_)
  rintro e w3 ⟨rfl, hb3⟩
  have B3 := Lib.hid (B2.out.trans (hb3.mono B2.out.size))
  clear hb3
  go_wp2_with fail
  (with_reducible refine (F3.out _).mono ?_)
  rintro e w4 ⟨rfl, hb4⟩
  have B4 := Lib.hid (B3.out.trans (hb4.mono B3.out.size))
  clear hb4
  go_wp2_with (simp only [pol_field5])
  go_ret
  exact ⟨rfl, B4.out⟩

set_option maxHeartbeats 1000000 in
set_option maxRecDepth 100000 in
theorem tuneWith_walk (p : Pol) (f v a b n : Int) (ha : I64 a) (hb : I64 b) (hn : I64 n) (w : World) :
    Calls Try.prog 8 #[.agg #[.int .i64 p.mn, .int .i64 p.mx, .int .i64 p.tg, .int .i64 p.tl, .int .i64 p.wi, .int .i64 p.ho], .int .i64 f, .int .i64 v, .int .i64 a, .int .i64 b, .int .i64 n] w fun e w' => e = .returned (.bool true) ∧ Below w.heap.size w w' := by
  have f1 := fun W : World => tune_with p f v W
  have f2 := fun W : World => ref45_with p f v W
  have f3 := fun W : World => tune_ladder a b ha hb n hn W
  have f4 := fun W : World => ref45_ladder a b ha hb n hn W
  have hlen : (Lad.of a b n).length ≤ 256 := by
    unfold Lad.of
    split
    · simp
    · have := Lad.len (Lad.at a b (Lad.step a b n.toNat) n.toNat) n.toNat; omega
  obtain ⟨q, eq⟩ : ∃ q, q = Pol.with p f v := ⟨_, rfl⟩
  simp only [← eq] at f1 f2
  obtain ⟨L, eL⟩ : ∃ L, L = Lad.of a b n := ⟨_, rfl⟩
  simp only [← eL] at f3 f4 hlen
  have f5 : ∀ (p1 p2 : Option Addr) (c1 c2 : Nat) (W : World), Ints .i64 W p1 L → Ints .i64 W p2 L → Calls Try.prog 35 #[.slice p1 L.length c1, .slice p2 L.length c2] W fun e w' => e = .returned (.bool true) ∧ Below W.heap.size W w' := by
    intro p1 p2 c1 c2 W h1 h2
    have := ref_same p1 p2 c1 c2 L L W h1 h2 (by omega) (by omega)
    rwa [decide_eq_true rfl] at this
  have HQ := Lib.hid (fun W : World => pol_equal_yes q W)
  obtain ⟨m, em⟩ : ∃ m, m = L.length := ⟨_, rfl⟩
  simp only [← em] at f3 f4 f5
  have F1 := Lib.hid f1
  have F2 := Lib.hid f2
  have F3 := Lib.hid f3
  have F4 := Lib.hid f4
  have F5 := Lib.hid f5
  obtain ⟨mn, mx, tg, tl, wi, ho⟩ := q
  clear f1 f2 f3 f4 f5 eq eL em hlen ha hb hn
  go_enter Try.func8, Try.ntmps8
  go_wp2_with fail
  (with_reducible refine (awake45 _).mono ?_)
  rintro e w1 ⟨rfl, hb1⟩
  have M1 := Lib.hid (((Mem.start w).alloc (.cells #[.int .i64 p.mn, .int .i64 p.mx, .int .i64 p.tg, .int .i64 p.tl, .int .i64 p.wi, .int .i64 p.ho] 44)).call hb1)
  clear hb1
  go_wp2_with fail
  have hst := stab_mem (w := w) (bs := [(w.heap.size, .cells #[.int .i64 p.mn, .int .i64 p.mx, .int .i64 p.tg, .int .i64 p.tl, .int .i64 p.wi, .int .i64 p.ho] 44)])
  refine wp_region_E mixed [] hst (M1.out.drewN 1) ?_
  refine wpAnyE_take 0 (v := .agg #[.int .i64 p.mn, .int .i64 p.mx, .int .i64 p.tg, .int .i64 p.tl, .int .i64 p.wi, .int .i64 p.ho]) rfl (by kernel_rfl) (by kernel_rfl) (by kernel_rfl) (fun _ _ _ h => h) hst (EffB.run rfl rfl (fun wd hS => ?_)) (.inl (by kernel_rfl)) ?_
  · exact wp_load_row 44 _ rfl (w.heap.size) rfl 44 #[.int .i64 p.mn, .int .i64 p.mx, .int .i64 p.tg, .int .i64 p.tl, .int .i64 p.wi, .int .i64 p.ho] (0, 0) _ (hS.heap 0 rfl) Try.underlying44 rfl (by kernel_rfl) ⟨rfl, Below.refl _ _⟩
  simp only [act_norm]
  refine wpAnyE_take 1 rfl (by kernel_rfl) (by kernel_rfl) (by kernel_rfl) (fun _ _ _ h => h) hst (EffB.pure rfl (fun _ => rfl)) (.inr (EffB.pure rfl (fun _ => rfl))) ?_
  simp only [act_norm]
  refine wpAnyE_take 2 rfl (by kernel_rfl) (by kernel_rfl) (by kernel_rfl) (fun _ _ _ h => h) hst (EffB.pure rfl (fun _ => rfl)) (.inr (EffB.pure rfl (fun _ => rfl))) ?_
  simp only [act_norm]
  refine wpAnyE_take 3 (v := .agg #[.int .i64 mn, .int .i64 mx, .int .i64 tg, .int .i64 tl, .int .i64 wi, .int .i64 ho]) rfl (by kernel_rfl) (by kernel_rfl) (by kernel_rfl) (fun _ _ _ h => h) hst (EffB.run rfl rfl (fun wd hS => ?_)) (.inl (by kernel_rfl)) ?_
  · (go_wp2_with fail; (with_reducible refine (F1.out wd).mono ?_); rintro e w'' ⟨rfl, hb⟩; exact ⟨rfl, hb⟩)
  simp only [act_norm]
  refine wpAnyE_take 4 (v := .agg #[.int .i64 p.mn, .int .i64 p.mx, .int .i64 p.tg, .int .i64 p.tl, .int .i64 p.wi, .int .i64 p.ho]) rfl (by kernel_rfl) (by kernel_rfl) (by kernel_rfl) (fun _ _ _ h => h) hst (EffB.run rfl rfl (fun wd hS => ?_)) (.inl (by kernel_rfl)) ?_
  · exact wp_load_row 44 _ rfl (w.heap.size) rfl 44 #[.int .i64 p.mn, .int .i64 p.mx, .int .i64 p.tg, .int .i64 p.tl, .int .i64 p.wi, .int .i64 p.ho] (0, 0) _ (hS.heap 0 rfl) Try.underlying44 rfl (by kernel_rfl) ⟨rfl, Below.refl _ _⟩
  simp only [act_norm]
  refine wpAnyE_take 5 rfl (by kernel_rfl) (by kernel_rfl) (by kernel_rfl) (fun _ _ _ h => h) hst (EffB.pure rfl (fun _ => rfl)) (.inr (EffB.pure rfl (fun _ => rfl))) ?_
  simp only [act_norm]
  refine wpAnyE_take 6 rfl (by kernel_rfl) (by kernel_rfl) (by kernel_rfl) (fun _ _ _ h => h) hst (EffB.pure rfl (fun _ => rfl)) (.inr (EffB.pure rfl (fun _ => rfl))) ?_
  simp only [act_norm]
  refine wpAnyE_take 7 (v := .agg #[.int .i64 mn, .int .i64 mx, .int .i64 tg, .int .i64 tl, .int .i64 wi, .int .i64 ho]) rfl (by kernel_rfl) (by kernel_rfl) (by kernel_rfl) (fun _ _ _ h => h) hst (EffB.run rfl rfl (fun wd hS => ?_)) (.inl (by kernel_rfl)) ?_
  · (go_wp2_with fail; (with_reducible refine (F2.out wd).mono ?_); rintro e w'' ⟨rfl, hb⟩; exact ⟨rfl, hb⟩)
  simp only [act_norm]
  refine wpAnyE_take 8 (v := .bool true) rfl (by kernel_rfl) (by kernel_rfl) (by kernel_rfl) (fun _ _ _ h => h) hst (EffB.run rfl rfl (fun wd hS => ?_)) (.inl (by kernel_rfl)) ?_
  · exact wp_eql_agg _ _ _ _ rfl _ _ rfl rfl true (by kernel_rfl) (HQ.out _) ⟨rfl, Below.refl _ _⟩
  simp only [act_norm]
  refine wpAnyE_take 9 (v := .bool true) rfl (by kernel_rfl) (by kernel_rfl) (by kernel_rfl) (fun _ _ _ h => h) hst (EffB.run rfl rfl (fun wd hS => ?_)) (.inr (EffB.run rfl rfl (fun wd hS => ?_))) ?_
  · (go_wp2; exact ⟨rfl, Below.refl _ _⟩)
  · (go_wp2; exact ⟨rfl, Below.refl _ _⟩)
  simp only [act_norm]
  refine wpAnyE_take 10 rfl (by kernel_rfl) (by kernel_rfl) (by kernel_rfl) (fun _ _ _ h => h) hst (EffB.pure rfl (fun _ => rfl)) (.inr (EffB.pure rfl (fun _ => rfl))) ?_
  simp only [act_norm]
  refine wpAnyE_take 11 rfl (by kernel_rfl) (by kernel_rfl) (by kernel_rfl) (fun _ _ _ h => h) hst (EffB.pure rfl (fun _ => rfl)) (.inr (EffB.pure rfl (fun _ => rfl))) ?_
  simp only [act_norm]
  refine wpAnyE_take 12 rfl (by kernel_rfl) (by kernel_rfl) (by kernel_rfl) (fun _ _ _ h => h) hst (EffB.pure rfl (fun _ => rfl)) (.inr (EffB.pure rfl (fun _ => rfl))) ?_
  simp only [act_norm]
  refine wpAnyE_take 14 rfl (by kernel_rfl) (by kernel_rfl) (by kernel_rfl) (fun _ _ _ h => h) hst (EffB.pure rfl (fun _ => rfl)) (.inr (EffB.pure rfl (fun _ => rfl))) ?_
  simp only [act_norm]
  refine wpAnyE_take 15 rfl (by kernel_rfl) (by kernel_rfl) (by kernel_rfl) (fun _ _ _ h => h) hst (EffB.pure rfl (fun _ => rfl)) (.inr (EffB.pure rfl (fun _ => rfl))) ?_
  simp only [act_norm]
  refine wpAnyE_take 16 rfl (by kernel_rfl) (by kernel_rfl) (by kernel_rfl) (fun _ _ _ h => h) hst (EffB.pure rfl (fun _ => rfl)) (.inr (EffB.pure rfl (fun _ => rfl))) ?_
  simp only [act_norm]
  refine wpAnyE_one 13 rfl (by kernel_rfl) rfl (fun wd hS => ?_)
  go_wp2_with fail
  (with_reducible refine (F3.out _).mono ?_)
  rintro e w5 ⟨u, d, rfl, _, hA, hb5⟩
  have hst2 := stab_and hst (stab_ints45 (q := u) (l := L))
  refine ⟨_, ⟨hst _ _ hS hb5, hA⟩, hst2, (by first | exact fun _ h => h.1 | exact .inr fun _ h => h.1), ?_⟩
  try simp only [act_norm]
  clear hA hb5 hS hst M1
  have hst := hst2
  refine wpAnyE_one 17 rfl (by kernel_rfl) rfl (fun wd hS => ?_)
  go_wp2_with fail
  (with_reducible refine (F4.out _).mono ?_)
  rintro e w5 ⟨u2, d2, rfl, _, hA, hb5⟩
  have hst3 := stab_and hst2 (stab_ints45 (q := u2) (l := L))
  refine ⟨_, ⟨hst _ _ hS hb5, hA⟩, hst3, (by first | exact fun _ h => h.1 | exact .inr fun _ h => h.1), ?_⟩
  try simp only [act_norm]
  clear hA hb5 hS hst hst2
  have hst := hst3
  refine wpAnyE_take 18 (v := .bool true) rfl (by kernel_rfl) (by kernel_rfl) (by kernel_rfl) (fun _ _ _ h => h) hst (EffB.run rfl rfl (fun wd hS => ?_)) (.inl (by kernel_rfl)) ?_
  · (go_wp2_with fail; (with_reducible refine (F5.out u u2 d d2 wd hS.1.2 hS.2).mono ?_); rintro e w'' ⟨rfl, hb⟩; exact ⟨rfl, hb⟩)
  simp only [act_norm]
  refine wpAnyE_take 19 (v := .bool true) rfl (by kernel_rfl) (by kernel_rfl) (by kernel_rfl) (fun _ _ _ h => h) hst (EffB.run rfl rfl (fun wd hS => ?_)) (.inr (EffB.run rfl rfl (fun wd hS => ?_))) ?_
  · (go_wp2; exact ⟨rfl, Below.refl _ _⟩)
  · (go_wp2; exact ⟨rfl, Below.refl _ _⟩)
  simp only [act_norm]
  refine wpAnyE_take 20 rfl (by kernel_rfl) (by kernel_rfl) (by kernel_rfl) (fun _ _ _ h => h) hst (EffB.pure rfl (fun _ => rfl)) (.inr (EffB.pure rfl (fun _ => rfl))) ?_
  simp only [act_norm]
  refine wpAnyE_done (by kernel_rfl) (fun wd hS => ?_) _
  have MF := Lib.hid hS.1.1
  clear hS hst hst3
  go_wp2
  go_ret
  exact ⟨rfl, MF.out.below⟩
end Go.Proofs.Ytildjnibdappnaa
