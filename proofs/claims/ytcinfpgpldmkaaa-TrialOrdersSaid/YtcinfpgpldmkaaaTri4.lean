/- Layer 44: results compared; the law on what is judged. -/
import Derived.Test.YtcinfpgpldmkaaaTri2
import Derived.Test.YtcinfpgpldmkaaaTri3
import Derived.Test.YtcinfpgpldmkaaaNone
namespace Go.Proofs.Ytcinfpgpldmkaaa
open Go.ChangeShapes Go.WideShapes Go.ChangeAt Go.RowKit

set_option maxHeartbeats 2000000 in
set_option maxRecDepth 100000 in
theorem ref44_same (p q : Option Addr) (n c d : Nat) (l : List Adv) (hn : l.length = n) (hb : n ≤ 9223372036854775807) (C T a b x y : Int) (w : World) (hs : Advs w p l) (ht : Advs w q l) :
    Calls Try.prog 39 #[.agg #[.slice p n c, .int .i64 C, .int .i64 T, .int .i64 a, .int .i64 b, .int .i64 x, .int .i64 y], .agg #[.slice q n d, .int .i64 C, .int .i64 T, .int .i64 a, .int .i64 b, .int .i64 x, .int .i64 y]] w
      fun e w' => e = .returned (.bool true) ∧ Below w.heap.size w w' := by
  have f1 := fun W : World => fun h : Advs W p l => fun h2 : Advs W q l => ref14_same p q n c d l hn hb W h h2
  have F1 := Lib.hid f1
  have HS := Lib.hid hs
  have HT := Lib.hid ht
  clear f1 hs ht hn
  go_enter Try.func39, Try.ntmps39
  go_wp2_with fail
  (with_reducible refine (F1.out _ (HS.out.below (below2 _ _ _)) (HT.out.below (below2 _ _ _))).mono ?_)
  rintro e w1 ⟨rfl, hb1⟩
  have M1 := Lib.hid ((((Mem.start w).alloc (.cells #[.slice p n c, .int .i64 C, .int .i64 T, .int .i64 a, .int .i64 b, .int .i64 x, .int .i64 y] 61)).allocAs (w.heap.size + 1) (.cells #[.slice q n d, .int .i64 C, .int .i64 T, .int .i64 a, .int .i64 b, .int .i64 x, .int .i64 y] 61) (by simp)).call hb1)
  have a1 : w1.cell? ⟨w.heap.size, 1, none⟩ = some (.int .i64 C) := M1.out.cell 0 1 rfl rfl
  have a2 : w1.cell? ⟨w.heap.size, 2, none⟩ = some (.int .i64 T) := M1.out.cell 0 2 rfl rfl
  have a3 : w1.cell? ⟨w.heap.size, 3, none⟩ = some (.int .i64 a) := M1.out.cell 0 3 rfl rfl
  have a4 : w1.cell? ⟨w.heap.size, 4, none⟩ = some (.int .i64 b) := M1.out.cell 0 4 rfl rfl
  have a5 : w1.cell? ⟨w.heap.size, 5, none⟩ = some (.int .i64 x) := M1.out.cell 0 5 rfl rfl
  have a6 : w1.cell? ⟨w.heap.size, 6, none⟩ = some (.int .i64 y) := M1.out.cell 0 6 rfl rfl
  have b1 : w1.cell? ⟨w.heap.size + 1, 1, none⟩ = some (.int .i64 C) := M1.out.cell 1 1 rfl rfl
  have b2 : w1.cell? ⟨w.heap.size + 1, 2, none⟩ = some (.int .i64 T) := M1.out.cell 1 2 rfl rfl
  have b3 : w1.cell? ⟨w.heap.size + 1, 3, none⟩ = some (.int .i64 a) := M1.out.cell 1 3 rfl rfl
  have b4 : w1.cell? ⟨w.heap.size + 1, 4, none⟩ = some (.int .i64 b) := M1.out.cell 1 4 rfl rfl
  have b5 : w1.cell? ⟨w.heap.size + 1, 5, none⟩ = some (.int .i64 x) := M1.out.cell 1 5 rfl rfl
  have b6 : w1.cell? ⟨w.heap.size + 1, 6, none⟩ = some (.int .i64 y) := M1.out.cell 1 6 rfl rfl
  clear hb1
  go_wp2
  go_ret
  exact ⟨rfl, M1.out.below⟩

set_option maxHeartbeats 2000000 in
set_option maxRecDepth 100000 in
theorem awake44 (w : World) : Calls Try.prog 38 #[] w fun e w' => e = .returned (.bool true) ∧ Below w.heap.size w w' := by
  have h1 : ∀ W : World, Calls Try.prog 40 #[.agg #[.int .i64 0, .int .i64 0, .int .i64 100, .int .i64 0, .int .i64 0, .int .i64 0], .slice (some ⟨W.heap.size, 0, none⟩) 1 1] (W.alloc (.cells #[.int .i64 0, .int .i64 150, .int .i64 0, .int .i64 2, .int .i64 0] 24))
      fun e w' => ∃ q1 d, e = .returned (.agg #[.slice q1 1 d, .int .i64 0, .int .i64 0, .int .i64 2, .int .i64 2, .int .i64 50, .int .i64 0]) ∧ Below W.heap.size W w' := by
    intro W
    have := trial_judge ⟨0, 0, 100, 0, 0, 0⟩ (by unfold Pol.In I64; simp) (some ⟨W.heap.size, 0, none⟩) 1 1 [⟨0, 150, 0, 2, 0⟩] rfl (by intro a ha; simp at ha; subst ha; unfold Adv.In I64; simp) (by omega) (by simp) _ (advs_alloc W [⟨0, 150, 0, 2, 0⟩] 24 _ rfl)
    refine this.mono fun e w' ⟨q1, d, he, _, _, hb⟩ => ⟨q1, d, ?_, (below1 W _).trans (hb.mono (by simp))⟩
    rw [he]
    have e1 : Adv.changes (Adv.rep [⟨0, 150, 0, 2, 0⟩]) 1 = 0 := by decide +kernel
    have e2 : (Adv.turns (Adv.rep [⟨0, 150, 0, 2, 0⟩]) 1).1 = 0 := by decide +kernel
    have e3 : Tri.lo (Adv.rep [⟨0, 150, 0, 2, 0⟩]) 1 = 2 := by decide +kernel
    have e4 : Tri.hi (Adv.rep [⟨0, 150, 0, 2, 0⟩]) 1 = 2 := by decide +kernel
    have e5 : Tri.sp (Tri.left 100 [⟨0, 150, 0, 2, 0⟩]) 1 = 50 := by decide +kernel
    have e6 : Tri.sh (Tri.left 100 [⟨0, 150, 0, 2, 0⟩]) 1 = 0 := by decide +kernel
    simp only [e1, e2, e3, e4, e5, e6, Tri.row]
    rfl
  have h2 : ∀ W : World, Calls Try.prog 40 #[.agg #[.int .i64 0, .int .i64 0, .int .i64 0, .int .i64 0, .int .i64 0, .int .i64 0], .slice none 0 0] W
      fun e w' => ∃ q1 d, e = .returned (.agg #[.slice q1 0 d, .int .i64 0, .int .i64 0, .int .i64 0, .int .i64 0, .int .i64 0, .int .i64 0]) ∧ Below W.heap.size W w' := by
    intro W
    have := trial_judge ⟨0, 0, 0, 0, 0, 0⟩ (by unfold Pol.In I64; simp) none 0 0 [] rfl (by simp) (by omega) (by simp) W (.inl rfl)
    exact this.mono fun e w' ⟨q1, d, he, _, _, hb⟩ => ⟨q1, d, he, hb⟩
  have h3 : ∀ (W : World) (q : Option Addr) (d : Nat), Calls Try.prog 39 #[.agg #[.slice q 0 d, .int .i64 0, .int .i64 0, .int .i64 0, .int .i64 0, .int .i64 0, .int .i64 0], .agg #[.slice none 0 0, .int .i64 0, .int .i64 0, .int .i64 0, .int .i64 0, .int .i64 0, .int .i64 0]] W
      fun e w' => e = .returned (.bool true) ∧ Below W.heap.size W w' := fun W q d => ref44_same q none 0 d 0 [] rfl (by omega) 0 0 0 0 0 0 W (.inl rfl) (.inl rfl)
  have H1 := Lib.hid h1
  have H2 := Lib.hid h2
  have H3 := Lib.hid h3
  clear h1 h2 h3
  go_enter Try.func38, Try.ntmps38
  go_wp2_with fail
  (with_reducible refine (H1.out _).mono ?_)
  rintro e w1 ⟨q1, d1, rfl, hb1⟩
  have M1 := Lib.hid (((Mem.start w).call hb1).alloc (.cells #[.slice q1 1 d1, .int .i64 0, .int .i64 0, .int .i64 2, .int .i64 2, .int .i64 50, .int .i64 0] 62))
  clear hb1
  go_wp2_with ((with_reducible refine wpList_store_rowAs rfl 62 _ _ rfl (w1.heap.size) #[.slice q1 1 d1, .int .i64 0, .int .i64 0, .int .i64 2, .int .i64 2, .int .i64 50, .int .i64 0] ?_ ?_ 62 #[.slice none 0 0, .int .i64 0, .int .i64 0, .int .i64 0, .int .i64 0, .int .i64 0, .int .i64 0] 7 ?_ (by kernel_rfl) rfl rfl (by simp [Value.oneCell']) ?_); exact rfl; exact rfl; exact (heap_alloc_at _ _ _ rfl); (first | rw [row_1_0] | rw [row_2_0] | rw [row_2_1] | rw [row_3_0] | rw [row_3_1] | rw [row_3_2] | rw [row_4_0] | rw [row_4_1] | rw [row_4_2] | rw [row_4_3] | rw [row_5_0] | rw [row_5_1] | rw [row_5_2] | rw [row_5_3] | rw [row_5_4] | rw [row_6_0] | rw [row_6_1] | rw [row_6_2] | rw [row_6_3] | rw [row_6_4] | rw [row_6_5] | simp only [setRow_alloc_past, setRow_alloc_at, World.size_alloc, Nat.add_assoc, Nat.reduceAdd, Nat.lt_add_right_iff_pos, Nat.add_lt_add_iff_left, Nat.reduceLT, Nat.zero_lt_succ, Nat.lt_add_one]))
  (with_reducible refine (H2.out _).mono ?_)
  rintro e w2 ⟨q2, d2, rfl, hb2⟩
  have M2 := Lib.hid (M1.out.call hb2)
  clear hb2 M1
  go_wp2_with fail
  (with_reducible refine (H3.out _ _ _).mono ?_)
  rintro e w3 ⟨rfl, hb3⟩
  have M3 := Lib.hid (M2.out.call hb3)
  clear hb3 M2
  go_wp2
  go_ret
  exact ⟨rfl, M3.out.below⟩

set_option maxHeartbeats 2000000 in
set_option maxRecDepth 100000 in
theorem trialJudges_walk (p : Pol) (hp : p.In) (q : Option Addr) (cap : Nat) (l : List Adv) (hin : ∀ a ∈ l, a.In) (hb : l.length ≤ 9223372036854775807) (hq : q = none → l.length = 0 ∧ cap = 0) (w : World) (hs : Advs w q l) :
    Calls Try.prog 9 #[.agg #[.int .i64 p.mn, .int .i64 p.mx, .int .i64 p.tg, .int .i64 p.tl, .int .i64 p.wi, .int .i64 p.ho], .slice q l.length cap] w fun e w' => e = .returned (.bool true) ∧ Below w.heap.size w w' := by
  obtain ⟨n, en⟩ : ∃ n, n = l.length := ⟨_, rfl⟩
  rw [← en] at hb hq ⊢
  by_cases h1 : 60 < n
  · clear en hs hp hq hin
    go_enter Try.func9, Try.ntmps9
    go_wp2_with fail
    (with_reducible refine (awake44 _).mono ?_)
    rintro e w1 ⟨rfl, hb1⟩
    have M1 := Lib.hid (((Mem.start w).alloc (.cells #[.int .i64 p.mn, .int .i64 p.mx, .int .i64 p.tg, .int .i64 p.tl, .int .i64 p.wi, .int .i64 p.ho] 44)).call hb1)
    clear hb1
    go_wp2
    go_ret
    exact ⟨rfl, M1.out.below⟩
  have f1 := fun W : World => fun h : Advs W q l => trial_judge p hp q n cap l en.symm hin (by omega) hq W h
  have f2 := fun W : World => fun h : Advs W q l => ref44_judge p hp q n cap l en.symm hin (by omega) W h
  have f3 := fun (W : World) (u : Option Addr) (d : Nat) (C T a b x y : Int) (h : Advs W u l) (h2 : Advs W q l) => ref44_same u q n d cap l en.symm hb C T a b x y W h h2
  unfold Tri.row at f1 f2
  obtain ⟨C, eC⟩ : ∃ x : Int, x = (Adv.changes (Adv.rep l) n : Nat) := ⟨_, rfl⟩
  obtain ⟨T, eT⟩ : ∃ x : Int, x = ((Adv.turns (Adv.rep l) n).1 : Nat) := ⟨_, rfl⟩
  obtain ⟨a, ea⟩ : ∃ x, x = Tri.lo (Adv.rep l) n := ⟨_, rfl⟩
  obtain ⟨b, eb⟩ : ∃ x, x = Tri.hi (Adv.rep l) n := ⟨_, rfl⟩
  obtain ⟨x, ex⟩ : ∃ x, x = Tri.sp (Tri.left p.tg l) n := ⟨_, rfl⟩
  obtain ⟨y, ey⟩ : ∃ x, x = Tri.sh (Tri.left p.tg l) n := ⟨_, rfl⟩
  simp only [← eC, ← eT, ← ea, ← eb, ← ex, ← ey] at f1 f2
  have F1 := Lib.hid f1
  have F2 := Lib.hid f2
  have F3 := Lib.hid f3
  have HS := Lib.hid hs
  clear f1 f2 f3 eC eT ea eb ex ey en hs hp hq hin
  go_enter Try.func9, Try.ntmps9
  go_wp2_with fail
  (with_reducible refine (awake44 _).mono ?_)
  rintro e w1 ⟨rfl, hb1⟩
  have M1 := Lib.hid (((Mem.start w).alloc (.cells #[.int .i64 p.mn, .int .i64 p.mx, .int .i64 p.tg, .int .i64 p.tl, .int .i64 p.wi, .int .i64 p.ho] 44)).call hb1)
  clear hb1
  go_wp2_with fail
  have hst := stab_and (stab_mem (w := w) (bs := [(w.heap.size, .cells #[.int .i64 p.mn, .int .i64 p.mx, .int .i64 p.tg, .int .i64 p.tl, .int .i64 p.wi, .int .i64 p.ho] 44)])) (stab_advs (q := q) (l := l))
  refine wp_region_E mixed [] hst ⟨M1.out.drewN 1, HS.out.below (M1.out.drewN 1).below⟩ ?_
  refine wpAnyE_take 0 (v := .agg #[.int .i64 p.mn, .int .i64 p.mx, .int .i64 p.tg, .int .i64 p.tl, .int .i64 p.wi, .int .i64 p.ho]) rfl (by kernel_rfl) (by kernel_rfl) (by kernel_rfl) (fun _ _ _ h => h) hst (EffB.run rfl rfl (fun wd hS => ?_)) (.inl (by kernel_rfl)) ?_
  · exact wp_load_row 44 _ rfl (w.heap.size) rfl 44 #[.int .i64 p.mn, .int .i64 p.mx, .int .i64 p.tg, .int .i64 p.tl, .int .i64 p.wi, .int .i64 p.ho] (0, 0) _ (hS.1.heap 0 rfl) Try.underlying44 rfl (by kernel_rfl) ⟨rfl, Below.refl _ _⟩
  simp only [act_norm]
  refine wpAnyE_take 1 rfl (by kernel_rfl) (by kernel_rfl) (by kernel_rfl) (fun _ _ _ h => h) hst (EffB.pure rfl (fun _ => rfl)) (.inr (EffB.pure rfl (fun _ => rfl))) ?_
  simp only [act_norm]
  refine wpAnyE_take 3 (v := .agg #[.int .i64 p.mn, .int .i64 p.mx, .int .i64 p.tg, .int .i64 p.tl, .int .i64 p.wi, .int .i64 p.ho]) rfl (by kernel_rfl) (by kernel_rfl) (by kernel_rfl) (fun _ _ _ h => h) hst (EffB.run rfl rfl (fun wd hS => ?_)) (.inl (by kernel_rfl)) ?_
  · exact wp_load_row 44 _ rfl (w.heap.size) rfl 44 #[.int .i64 p.mn, .int .i64 p.mx, .int .i64 p.tg, .int .i64 p.tl, .int .i64 p.wi, .int .i64 p.ho] (0, 0) _ (hS.1.heap 0 rfl) Try.underlying44 rfl (by kernel_rfl) ⟨rfl, Below.refl _ _⟩
  simp only [act_norm]
  refine wpAnyE_take 4 rfl (by kernel_rfl) (by kernel_rfl) (by kernel_rfl) (fun _ _ _ h => h) hst (EffB.pure rfl (fun _ => rfl)) (.inr (EffB.pure rfl (fun _ => rfl))) ?_
  simp only [act_norm]
  refine wpAnyE_one 2 rfl (by kernel_rfl) rfl (fun wd hS => ?_)
  go_wp2_with fail
  (with_reducible refine (F1.out _ hS.2).mono ?_)
  rintro e w5 ⟨u, d, rfl, hA, _, hb5⟩
  have hst2 := stab_and hst (stab_advs (q := u) (l := l))
  refine ⟨_, ⟨hst _ _ hS hb5, hA.1⟩, hst2, (by first | exact fun _ h => h.1 | exact .inr fun _ h => h.1), ?_⟩
  try simp only [act_norm]
  clear hA hb5 hS hst M1
  have hst := hst2
  refine wpAnyE_take 5 (v := .agg #[.slice q n cap, .int .i64 C, .int .i64 T, .int .i64 a, .int .i64 b, .int .i64 x, .int .i64 y]) rfl (by kernel_rfl) (by kernel_rfl) (by kernel_rfl) (fun _ _ _ h => h) hst (EffB.run rfl rfl (fun wd hS => ?_)) (.inl (by kernel_rfl)) ?_
  · (go_wp2_with fail; (with_reducible refine (F2.out wd hS.1.2).mono ?_); rintro e w'' ⟨rfl, hb⟩; exact ⟨rfl, hb⟩)
  simp only [act_norm]
  refine wpAnyE_take 6 (v := .bool true) rfl (by kernel_rfl) (by kernel_rfl) (by kernel_rfl) (fun _ _ _ h => h) hst (EffB.run rfl rfl (fun wd hS => ?_)) (.inl (by kernel_rfl)) ?_
  · (go_wp2_with fail; (with_reducible refine (F3.out wd u d C T a b x y hS.2 hS.1.2).mono ?_); rintro e w'' ⟨rfl, hb⟩; exact ⟨rfl, hb⟩)
  simp only [act_norm]
  refine wpAnyE_take 7 rfl (by kernel_rfl) (by kernel_rfl) (by kernel_rfl) (fun _ _ _ h => h) hst (EffB.pure rfl (fun _ => rfl)) (.inr (EffB.pure rfl (fun _ => rfl))) ?_
  simp only [act_norm]
  refine wpAnyE_done (by kernel_rfl) (fun wd hS => ?_) _
  have MF := Lib.hid hS.1.1
  clear hS hst hst2
  go_wp2
  go_ret
  exact ⟨rfl, MF.out.below⟩
end Go.Proofs.Ytcinfpgpldmkaaa
