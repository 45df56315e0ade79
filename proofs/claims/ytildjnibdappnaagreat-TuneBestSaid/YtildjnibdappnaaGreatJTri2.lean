/- Layer 44: what a policy would have done, judged. -/
import Derived.Test.YtildjnibdappnaaGreatJTriD
import Derived.BigRegion
import Derived.Deep.CutRange
namespace Go.Proofs.YtildjnibdappnaaGreat
open Go.ChangeShapes Go.WideShapes Go.ChangeAt Go.RowKit

set_option maxHeartbeats 8000000 in
set_option maxRecDepth 100000 in
theorem trial_judge (p : Pol) (hp : p.In) (q : Option Addr) (n cap : Nat) (l : List Adv) (hn : l.length = n) (hin : ∀ a ∈ l, a.In) (hb : n ≤ 100000) (hq : q = none → n = 0 ∧ cap = 0) (w : World) (hs : Advs w q l) :
    Calls Tryz.prog 20 #[.agg #[.int .i64 p.mn, .int .i64 p.mx, .int .i64 p.tg, .int .i64 p.tl, .int .i64 p.wi, .int .i64 p.ho], .slice q n cap] w fun e w' => ∃ q1 d, e = .returned (.agg (Tri.row (.slice q1 n d) (Adv.changes (Adv.rep l) n : Nat) ((Adv.turns (Adv.rep l) n).1 : Nat) (Tri.lo (Adv.rep l) n) (Tri.hi (Adv.rep l) n) (Tri.sp (Tri.left p.tg l) n) (Tri.sh (Tri.left p.tg l) n))) ∧
      AdvsIn w.heap.size w'.heap.size w' q1 l ∧ (q1 = none → n = 0 ∧ d = 0) ∧ Below w.heap.size w w' := by
  have f1 := fun W : World => fun h : Advs W q l => cloneA q n cap l hn hb hq W h
  have f2 := fun W : World => fun h : Advs W q l => history_changes q cap l (by omega) W h
  have f3 := fun W : World => fun h : Advs W q l => steady_turns q cap l (by omega) W h
  rw [hn] at f2 f3
  obtain ⟨c, ec⟩ : ∃ x, x = Adv.changes (Adv.rep l) n := ⟨_, rfl⟩
  obtain ⟨t, et⟩ : ∃ x, x = (Adv.turns (Adv.rep l) n).1 := ⟨_, rfl⟩
  have cle : c ≤ n := by rw [ec]; exact Adv.changes_le _ _
  have tle : t ≤ n := by rw [et]; exact Adv.turns_le _ _
  simp only [← ec] at f2 ⊢
  simp only [← et] at f3 ⊢
  have HIN := Lib.hid (fun k (hk : k < n) => hin (l[k]?.getD default) (by rw [List.getElem?_eq_getElem (by omega)]; exact List.getElem_mem _))
  have HN := Lib.hid hn
  have HS := Lib.hid hs
  have F1 := Lib.hid f1
  have F2 := Lib.hid f2
  have F3 := Lib.hid f3
  have hptg : I64 p.tg := by unfold Pol.In at hp; simp_all
  have HTG := Lib.hid hptg
  have HG := Lib.hid (show Adv.rep l = fun k => (l[k]?.getD default).repl from rfl)
  have HF := Lib.hid (show Tri.left p.tg l = fun k => Sat.clamp (Sat.clamp ((l[k]?.getD default).repl * p.tg) - (l[k]?.getD default).load) from rfl)
  obtain ⟨g, eg⟩ : ∃ x, x = Adv.rep l := ⟨_, rfl⟩
  obtain ⟨f, ef⟩ : ∃ x, x = Tri.left p.tg l := ⟨_, rfl⟩
  rw [← eg] at HG ⊢
  rw [← ef] at HF ⊢
  clear f1 f2 f3 ec et hptg hp hin hn hs eg ef hq
  go_enter Tryz.func20, Tryz.ntmps20
  go_wp2_with fail
  (with_reducible refine (F1.out _ (HS.out.below (below2 _ _ _))).mono ?_)
  rintro e w1 ⟨q1, d, rfl, hq1, hz1, hb1⟩
  have M1 := Lib.hid ((((Mem.start w).alloc (.cells #[.int .i64 p.mn, .int .i64 p.mx, .int .i64 p.tg, .int .i64 p.tl, .int .i64 p.wi, .int .i64 p.ho] 23)).allocAs (w.heap.size + 1) (.cells #[.slice none 0 0, .int .i64 0, .int .i64 0, .int .i64 0, .int .i64 0, .int .i64 0, .int .i64 0] 28) (by simp)).call hb1)
  have Q1 := Lib.hid (hq1.wide (A' := w.heap.size + 2) (by simp) (Nat.le_refl _))
  have Z1 := Lib.hid hz1
  clear hq1 hz1 hb1
  go_wp2_with fail
  (with_reducible refine (F2.out _ (HS.out.below M1.out.below)).mono ?_)
  rintro e w2 ⟨rfl, hb2⟩
  have M2 := Lib.hid (M1.out.call hb2)
  have Q2 := Lib.hid ((Q1.out.below hb2).wide (Nat.le_refl _) hb2.size)
  clear hb2 M1 Q1
  go_wp2_with fail
  (with_reducible refine (F3.out _ (HS.out.below M2.out.below)).mono ?_)
  rintro e w3 ⟨rfl, hb3⟩
  have M3 := Lib.hid ((M2.out.call hb3).alloc (.cells #[.slice q1 n d, .int .i64 c, .int .i64 t, .int .i64 0, .int .i64 0, .int .i64 0, .int .i64 0] 28))
  have Q3 := Lib.hid (((Q2.out.below hb3).wide (Nat.le_refl _) hb3.size).below (below1 _ (.cells #[.slice q1 n d, .int .i64 c, .int .i64 t, .int .i64 0, .int .i64 0, .int .i64 0, .int .i64 0] 28)))
  clear hb3 M2 Q2
  go_wp2_with ((with_reducible refine wpList_store_rowAs rfl 28 _ _ rfl (w3.heap.size) #[.slice q1 n d, .int .i64 c, .int .i64 t, .int .i64 0, .int .i64 0, .int .i64 0, .int .i64 0] ?_ ?_ 28 #[.slice none 0 0, .int .i64 0, .int .i64 0, .int .i64 0, .int .i64 0, .int .i64 0, .int .i64 0] 7 ?_ (by kernel_rfl) rfl rfl (by simp [Value.oneCell']) ?_); exact rfl; exact rfl; exact (heap_alloc_at _ _ _ rfl); (first | rw [row_1_0] | rw [row_2_0] | rw [row_2_1] | rw [row_3_0] | rw [row_3_1] | rw [row_3_2] | rw [row_4_0] | rw [row_4_1] | rw [row_4_2] | rw [row_4_3] | rw [row_5_0] | rw [row_5_1] | rw [row_5_2] | rw [row_5_3] | rw [row_5_4] | rw [row_6_0] | rw [row_6_1] | rw [row_6_2] | rw [row_6_3] | rw [row_6_4] | rw [row_6_5] | simp only [setRow_alloc_past, setRow_alloc_at, World.size_alloc, Nat.add_assoc, Nat.reduceAdd, Nat.lt_add_right_iff_pos, Nat.add_lt_add_iff_left, Nat.reduceLT, Nat.zero_lt_succ, Nat.lt_add_one]))
  obtain ⟨X, hX⟩ : ∃ X, X = w3.heap.size := ⟨_, rfl⟩
  rw [← hX] at M3 Q3 ⊢
  obtain ⟨w4, e4⟩ : ∃ W, W = w3.alloc (.cells #[.slice q1 n d, .int .i64 c, .int .i64 t, .int .i64 0, .int .i64 0, .int .i64 0, .int .i64 0] 28) := ⟨_, rfl⟩
  rw [← e4] at M3 Q3 ⊢
  clear hX e4
  go_loopw [18] (fun i wr => ∃ k : Nat, k ≤ n ∧ i = .int .i64 k ∧ Mem w wr [(w.heap.size, .cells #[.int .i64 p.mn, .int .i64 p.mx, .int .i64 p.tg, .int .i64 p.tl, .int .i64 p.wi, .int .i64 p.ho] 23), (w.heap.size + 1, .cells #[.slice none 0 0, .int .i64 0, .int .i64 0, .int .i64 0, .int .i64 0, .int .i64 0, .int .i64 0] 28), (X, .cells #[.slice q1 n d, .int .i64 c, .int .i64 t, .int .i64 (Tri.lo g k), .int .i64 (Tri.hi g k), .int .i64 (Tri.sp f k), .int .i64 (Tri.sh f k)] 28)] ∧ AdvsIn (w.heap.size + 2) X wr q1 l) (fun i _ => n - (intOf i).toNat)
  case atStart => exact ⟨0, by omega, rfl, M3.out, Q3.out⟩
  case round =>
    obtain ⟨k, hk, rfl, hM, hQ⟩ := hrel
    have MK := Lib.hid hM
    have QK := Lib.hid hQ
    clear hM hQ M3 Q3
    by_cases hlt : k < n
    · have hkl : k < l.length := by have := HN.out; omega
      obtain ⟨b, off, rfl, hbw, hc⟩ := HS.out.cells k hkl
      obtain ⟨c0, c1, c2, c3, c4⟩ := (HS.out.below MK.out.below).at k hkl
      have hai := HIN.out k hlt
      have hgk : g k = (l[k]?.getD default).repl := by rw [HG.out]
      have hfk : f k = Sat.clamp (Sat.clamp ((l[k]?.getD default).repl * p.tg) - (l[k]?.getD default).load) := by rw [HF.out]
      obtain ⟨a, ea⟩ : ∃ a, a = l[k]?.getD default := ⟨_, rfl⟩
      rw [← ea] at c0 c1 c2 c3 c4 hai hgk hfk
      obtain ⟨tick, load, want, repl, why⟩ := a
      obtain ⟨_, i1, _, i3, _⟩ := hai
      simp only at c0 c1 c2 c3 c4 i1 i3 hgk hfk
      obtain ⟨lo, elo⟩ : ∃ x, x = Tri.lo g k := ⟨_, rfl⟩
      obtain ⟨hi, ehi⟩ : ∃ x, x = Tri.hi g k := ⟨_, rfl⟩
      obtain ⟨sp, esp⟩ : ∃ x, x = Tri.sp f k := ⟨_, rfl⟩
      obtain ⟨sh, esh⟩ : ∃ x, x = Tri.sh f k := ⟨_, rfl⟩
      have isp : I64 sp := by rw [esp]; exact Tri.sp_I64 f k
      have ish : I64 sh := by rw [esh]; exact Tri.sh_I64 f k
      obtain ⟨m, em⟩ : ∃ x, x = Sat.clamp (repl * p.tg) := ⟨_, rfl⟩
      obtain ⟨r, er⟩ : ∃ x, x = Sat.clamp (m - load) := ⟨_, rfl⟩
      rw [← em, ← er] at hfk
      have im : I64 m := by rw [em]; exact Sat.clamp_I64 _
      have ir : I64 r := by rw [er]; exact Sat.clamp_I64 _
      have g1 := fun W => (sat_mul repl p.tg i3 HTG.out W).mono fun e w' h => And.intro h.1 h.2.symm
      have g2 := fun W => (sat_sub m load im i1 W).mono fun e w' h => And.intro h.1 h.2.symm
      rw [← em] at g1
      rw [← er] at g2
      have G1 := Lib.hid g1
      have G2 := Lib.hid g2
      have HLO := Lib.hid (show Tri.lo g (k + 1) = if k = 0 then g 0 else min (Tri.lo g k) (g k) from rfl)
      have HHI := Lib.hid (show Tri.hi g (k + 1) = if k = 0 then g 0 else max (Tri.hi g k) (g k) from rfl)
      have HSP := Lib.hid (show Tri.sp f (k + 1) = if 0 ≤ f k then Sat.clamp (Tri.sp f k + f k) else Tri.sp f k from rfl)
      have HSH := Lib.hid (show Tri.sh f (k + 1) = if 0 ≤ f k then Tri.sh f k else Sat.clamp (Tri.sh f k + Sat.clamp (0 - f k)) from rfl)
      rw [← elo] at HLO MK
      rw [← ehi] at HHI MK
      rw [← esp] at HSP MK
      rw [← esh] at HSH MK
      rw [hfk] at HSP HSH
      have HGK := Lib.hid hgk
      have HI := Lib.hid (And.intro isp (And.intro ish ir))
      clear ea elo ehi esp esh em er g1 g2 hfk hgk i1 i3 im isp ish ir
      have MA := Lib.hid (MK.out.alloc (.cells #[.int .i64 tick, .int .i64 load, .int .i64 want, .int .i64 repl, .int .i64 why] 53))
      have QA := Lib.hid (QK.out.below (below1 _ (.cells #[.int .i64 tick, .int .i64 load, .int .i64 want, .int .i64 repl, .int .i64 why] 53)))
      have hXY : X < wr.heap.size := MK.out.lt (i := 2) rfl
      have HGL := Lib.hid (And.intro HLO.out HHI.out)
      clear HLO HHI MK QK
      go_upto_if 24 with fail
      obtain ⟨Y, hY⟩ : ∃ Y, Y = wr.heap.size := ⟨_, rfl⟩
      rw [← hY] at MA hXY ⊢
      obtain ⟨wa0, ewa⟩ : ∃ W, W = wr.alloc (.cells #[.int .i64 tick, .int .i64 load, .int .i64 want, .int .i64 repl, .int .i64 why] 53) := ⟨_, rfl⟩
      rw [← ewa] at MA QA ⊢
      clear hY ewa
      go_cut [] from 19 to 64 (fun wx => ∃ lo1 hi1, Hid (Tri.lo g (k + 1) = min lo1 repl) ∧ Hid (Tri.hi g (k + 1) = max hi1 repl) ∧ Mem w wx [(w.heap.size, .cells #[.int .i64 p.mn, .int .i64 p.mx, .int .i64 p.tg, .int .i64 p.tl, .int .i64 p.wi, .int .i64 p.ho] 23), (w.heap.size + 1, .cells #[.slice none 0 0, .int .i64 0, .int .i64 0, .int .i64 0, .int .i64 0, .int .i64 0, .int .i64 0] 28), (X, .cells #[.slice q1 n d, .int .i64 c, .int .i64 t, .int .i64 lo1, .int .i64 hi1, .int .i64 sp, .int .i64 sh] 28), (Y, .cells #[.int .i64 tick, .int .i64 load, .int .i64 want, .int .i64 repl, .int .i64 why] 53)] ∧ AdvsIn (w.heap.size + 2) X wx q1 l)
      case first =>
        by_cases k0 : k = 0
        · have e0 : ((k:Int) == 0) = true := by simp [k0]
          have HLO2 := Lib.hid (HGL.out.1.trans (if_pos k0))
          have HHI2 := Lib.hid (HGL.out.2.trans (if_pos k0))
          have HG0 := Lib.hid (show g 0 = g k by rw [k0])
          have a3 : wa0.cell? ⟨Y, 3, none⟩ = some (.int .i64 repl) := MA.out.cell 3 3 rfl rfl
          have r3 : wa0.cell? ⟨X, 3, none⟩ = some (.int .i64 lo) := MA.out.cell 2 3 rfl rfl
          have r4 : wa0.cell? ⟨X, 4, none⟩ = some (.int .i64 hi) := MA.out.cell 2 4 rfl rfl
          have z3 := MA.out.free 2 3 rfl
          have z4 := MA.out.free 2 4 rfl
          clear k0
          go_wp2_with fail
          go_region
          go_wp2_with fail
          go_meet
          exact ⟨repl, repl, HLO2.out.trans (HG0.out.trans (HGK.out.trans (by omega))), HHI2.out.trans (HG0.out.trans (HGK.out.trans (by omega))), ((MA.out.setCell 2 3 (.int .i64 repl) rfl).setCell 2 4 (.int .i64 repl) rfl).drew, ((QA.out.setCell X 3 (.inr (Nat.le_refl _)) _).setCell X 4 (.inr (Nat.le_refl _)) _).drew⟩
        · have e0 : ((k:Int) == 0) = false := beq_eq_false_iff_ne.2 (by omega)
          have HLO2 := Lib.hid (HGL.out.1.trans (if_neg k0))
          have HHI2 := Lib.hid (HGL.out.2.trans (if_neg k0))
          clear k0
          go_wp2_with fail
          go_meet
          exact ⟨lo, hi, HLO2.out.trans (by rw [HGK.out]), HHI2.out.trans (by rw [HGK.out]), MA.out, QA.out⟩
      case rest =>
        obtain ⟨lo1, hi1, HLO3, HHI3, hM, hQ⟩ := hcut
        clear MA QA wa0 HGL HGK
        obtain ⟨wa, ewa⟩ : ∃ W, W = wc := ⟨_, rfl⟩
        rw [← ewa] at hM hQ ⊢
        clear ewa
        have MA := Lib.hid hM
        have QA := Lib.hid hQ
        clear hM hQ
        go_wp2_with fail
        have HL : ∃ x, Hid (Tri.lo g (k + 1) = x) ∧ ((repl < lo1 ∧ Hid (x = repl)) ∨ (¬ repl < lo1 ∧ Hid (x = lo1))) := by
          by_cases m1 : repl < lo1
          · exact ⟨repl, HLO3.out.trans (by omega), .inl ⟨m1, rfl⟩⟩
          · exact ⟨lo1, HLO3.out.trans (by omega), .inr ⟨m1, rfl⟩⟩
        have HH : ∃ x, Hid (Tri.hi g (k + 1) = x) ∧ ((hi1 < repl ∧ Hid (x = repl)) ∨ (¬ hi1 < repl ∧ Hid (x = hi1))) := by
          by_cases m1 : hi1 < repl
          · exact ⟨repl, HHI3.out.trans (by omega), .inl ⟨m1, rfl⟩⟩
          · exact ⟨hi1, HHI3.out.trans (by omega), .inr ⟨m1, rfl⟩⟩
        obtain ⟨lo2, HL2, hlo⟩ := HL
        obtain ⟨hi2, HH2, hhi⟩ := HH
        clear HLO3 HHI3
        have a3 : wa.cell? ⟨Y, 3, none⟩ = some (.int .i64 repl) := MA.out.cell 3 3 rfl rfl
        have r3 : wa.cell? ⟨X, 3, none⟩ = some (.int .i64 lo1) := MA.out.cell 2 3 rfl rfl
        have r4 : wa.cell? ⟨X, 4, none⟩ = some (.int .i64 hi1) := MA.out.cell 2 4 rfl rfl
        have z3 := MA.out.free 2 3 rfl
        have z4 := MA.out.free 2 4 rfl
        have hmn : ∀ (w : World) (ts : Array TypeId) (t : TypeId), (Builtin.min_ ts t #[.int .i64 lo1, .int .i64 repl]).run Tryz.prog w = .ok (.int .i64 lo2) w := fun w ts t => by
          rw [run_min_int2]
          rcases hlo with ⟨m1, h1⟩ | ⟨m1, h1⟩
          · rw [h1.out, if_pos m1]
          · rw [h1.out, if_neg m1]
        have hmx : ∀ (w : World) (ts : Array TypeId) (t : TypeId), (Builtin.max_ ts t #[.int .i64 hi1, .int .i64 repl]).run Tryz.prog w = .ok (.int .i64 hi2) w := fun w ts t => by
          rw [run_max_int2]
          rcases hhi with ⟨m1, h1⟩ | ⟨m1, h1⟩
          · rw [h1.out, if_pos m1]
          · rw [h1.out, if_neg m1]
        clear hlo hhi
        go_region
        have M7 : Mem w ((wa.setCell ⟨X, 3, none⟩ (.int .i64 lo2)).setCell ⟨X, 4, none⟩ (.int .i64 hi2)).drew [(w.heap.size, .cells #[.int .i64 p.mn, .int .i64 p.mx, .int .i64 p.tg, .int .i64 p.tl, .int .i64 p.wi, .int .i64 p.ho] 23), (w.heap.size + 1, .cells #[.slice none 0 0, .int .i64 0, .int .i64 0, .int .i64 0, .int .i64 0, .int .i64 0, .int .i64 0] 28), (X, .cells #[.slice q1 n d, .int .i64 c, .int .i64 t, .int .i64 lo2, .int .i64 hi2, .int .i64 sp, .int .i64 sh] 28), (Y, .cells #[.int .i64 tick, .int .i64 load, .int .i64 want, .int .i64 repl, .int .i64 why] 53)] := ((MA.out.setCell 2 3 (.int .i64 lo2) rfl).setCell 2 4 (.int .i64 hi2) rfl).drew
        have Q7 : AdvsIn (w.heap.size + 2) X ((wa.setCell ⟨X, 3, none⟩ (.int .i64 lo2)).setCell ⟨X, 4, none⟩ (.int .i64 hi2)).drew q1 l := ((QA.out.setCell X 3 (.inr (Nat.le_refl _)) _).setCell X 4 (.inr (Nat.le_refl _)) _).drew
        obtain ⟨w7, e7⟩ : ∃ W, W = ((wa.setCell ⟨X, 3, none⟩ (.int .i64 lo2)).setCell ⟨X, 4, none⟩ (.int .i64 hi2)).drew := ⟨_, rfl⟩
        rw [← e7] at M7 Q7 ⊢
        clear e7 hmn hmx
        clear a3 r3 r4 z3 z4 MA QA
        have hst := stab_and (stab_mem (w := w) (bs := [(w.heap.size, .cells #[.int .i64 p.mn, .int .i64 p.mx, .int .i64 p.tg, .int .i64 p.tl, .int .i64 p.wi, .int .i64 p.ho] 23), (w.heap.size + 1, .cells #[.slice none 0 0, .int .i64 0, .int .i64 0, .int .i64 0, .int .i64 0, .int .i64 0, .int .i64 0] 28), (X, .cells #[.slice q1 n d, .int .i64 c, .int .i64 t, .int .i64 lo2, .int .i64 hi2, .int .i64 sp, .int .i64 sh] 28), (Y, .cells #[.int .i64 tick, .int .i64 load, .int .i64 want, .int .i64 repl, .int .i64 why] 53)])) (stab_advsIn (A := w.heap.size + 2) (B := X) (q := q1) (l := l))
        have S7 := Lib.hid (And.intro M7 Q7)
        clear M7 Q7
        go_wp2_with fail
        have b3 : w7.cell? ⟨Y, 3, none⟩ = some (.int .i64 repl) := S7.out.1.cell 3 3 rfl rfl
        have b1 : w7.cell? ⟨Y, 1, none⟩ = some (.int .i64 load) := S7.out.1.cell 3 1 rfl rfl
        have b2 : w7.cell? ⟨w.heap.size, 2, none⟩ = some (.int .i64 p.tg) := S7.out.1.cell 0 2 rfl rfl
        go_quiet (first | (go_at_call 42; exact Calls.quiet_of_same (G1.out _)) | (go_at_call 41; exact Calls.quiet_of_same (G2.out _)))
        have S8 := Lib.hid (hst _ _ S7.out (below_drewN (Below.refl _ _) nq))
        obtain ⟨wd, ewd⟩ : ∃ W, W = w7.drewN nq := ⟨_, rfl⟩
        rw [← ewd] at S8 ⊢
        clear S7 b1 b2 b3 ewd
        by_cases hr : 0 ≤ r
        · have HSP2 := Lib.hid (HSP.out.trans (if_pos hr))
          have HSH2 := Lib.hid (HSH.out.trans (if_pos hr))
          have g3 := fun W => sat_add sp r HI.out.1 HI.out.2.2 W
          obtain ⟨sp2, esp⟩ : ∃ x, x = Sat.clamp (sp + r) := ⟨_, rfl⟩
          rw [← esp] at g3 HSP2
          have G3 := Lib.hid g3
          clear g3 esp HSP HSH
          have c5 : wd.cell? ⟨X, 5, none⟩ = some (.int .i64 sp) := S8.out.1.cell 2 5 rfl rfl
          have z5 := S8.out.1.free 2 5 rfl
          go_wp2_with ((with_reducible refine (G3.out _).mono ?_); rintro e w' ⟨rfl, rfl⟩)
          refine ⟨⟨k + 1, by omega, by go_num, ?_, S8.out.2.setCell X 5 (.inr (Nat.le_refl _)) _⟩, by simp [intOf]; omega⟩
          rw [HL2.out, HH2.out, HSP2.out, HSH2.out]
          exact Mem.init (cs := [(Y, .cells #[.int .i64 tick, .int .i64 load, .int .i64 want, .int .i64 repl, .int .i64 why] 53)]) (S8.out.1.setCell 2 5 (.int .i64 sp2) rfl)
        · have HSP2 := Lib.hid (HSP.out.trans (if_neg hr))
          have HSH2 := Lib.hid (HSH.out.trans (if_neg hr))
          have g3 := fun W => sat_sub 0 r (by unfold I64; omega) HI.out.2.2 W
          obtain ⟨nr, enr⟩ : ∃ x, x = Sat.clamp (0 - r) := ⟨_, rfl⟩
          have inr : I64 nr := by rw [enr]; exact Sat.clamp_I64 _
          have g4 := fun W => sat_add sh nr HI.out.2.1 inr W
          obtain ⟨sh2, esh⟩ : ∃ x, x = Sat.clamp (sh + nr) := ⟨_, rfl⟩
          rw [← enr] at g3 HSH2
          rw [← esh] at g4 HSH2
          have G3 := Lib.hid g3
          have G4 := Lib.hid g4
          clear g3 g4 esh enr inr HSP HSH
          go_wp2_with fail
          refine wp_region_E mixed [6] hst (hst _ _ S8.out (below_drew (Below.refl _ _))) ?_
          refine wpAnyE_take 0 (v := .pointer (some ⟨X, 6, none⟩)) rfl (by kernel_rfl) (by kernel_rfl) (by kernel_rfl) (fun _ _ _ h => h) hst (EffB.run rfl rfl (fun wd hS => ?_)) (.inr (EffB.run rfl rfl (fun wd hS => ?_))) ?_
          · (go_wp2; exact ⟨rfl, Below.refl _ _⟩)
          · (go_wp2; exact ⟨rfl, Below.refl _ _⟩)
          simp only [act_norm]
          refine wpAnyE_take 1 (v := .int .i64 sh) rfl (by kernel_rfl) (by kernel_rfl) (by kernel_rfl) (fun _ _ _ h => h) hst (EffB.run rfl rfl (fun wd hS => ?_)) (.inl (by kernel_rfl)) ?_
          · (have c2 : wd.cell? ⟨X, 6, none⟩ = some (.int .i64 sh) := by rw [cell_of_row _ _ _ _ _ _ (hS.1.heap 2 rfl)]; rfl); go_wp2; exact ⟨rfl, Below.refl _ _⟩
          simp only [act_norm]
          refine wpAnyE_take 2 rfl (by kernel_rfl) (by kernel_rfl) (by kernel_rfl) (fun _ _ _ h => h) hst (EffB.pure rfl (fun _ => rfl)) (.inr (EffB.pure rfl (fun _ => rfl))) ?_
          simp only [act_norm]
          refine wpAnyE_take 3 (v := .int .i64 nr) rfl (by kernel_rfl) (by kernel_rfl) (by kernel_rfl) (fun _ _ _ h => h) hst (EffB.run rfl rfl (fun wd hS => ?_)) (.inl (by kernel_rfl)) ?_
          · (go_wp2_with fail; (with_reducible refine (G3.out wd).mono ?_); rintro e w'' ⟨rfl, rfl⟩; exact ⟨rfl, Below.refl _ _⟩)
          simp only [act_norm]
          refine wpAnyE_take 4 (v := .int .i64 sh2) rfl (by kernel_rfl) (by kernel_rfl) (by kernel_rfl) (fun _ _ _ h => h) hst (EffB.run rfl rfl (fun wd hS => ?_)) (.inl (by kernel_rfl)) ?_
          · (go_wp2_with fail; (with_reducible refine (G4.out wd).mono ?_); rintro e w'' ⟨rfl, rfl⟩; exact ⟨rfl, Below.refl _ _⟩)
          simp only [act_norm]
          refine wpAnyE_take 5 (v := .pointer (some ⟨X, 6, none⟩)) rfl (by kernel_rfl) (by kernel_rfl) (by kernel_rfl) (fun _ _ _ h => h) hst (EffB.run rfl rfl (fun wd hS => ?_)) (.inr (EffB.run rfl rfl (fun wd hS => ?_))) ?_
          · (go_wp2; exact ⟨rfl, Below.refl _ _⟩)
          · (go_wp2; exact ⟨rfl, Below.refl _ _⟩)
          simp only [act_norm]
          refine wpAnyE_one 6 rfl (by kernel_rfl) rfl (fun wd hS => ?_)
          have z6 := hS.1.free 2 6 rfl
          have c6 : wd.cell? ⟨X, 6, none⟩ = some (.int .i64 sh) := hS.1.cell 2 6 rfl rfl
          have S9 := Lib.hid hS
          clear hS S8
          have hst2 := stab_and (stab_mem (w := w) (bs := [(w.heap.size, .cells #[.int .i64 p.mn, .int .i64 p.mx, .int .i64 p.tg, .int .i64 p.tl, .int .i64 p.wi, .int .i64 p.ho] 23), (w.heap.size + 1, .cells #[.slice none 0 0, .int .i64 0, .int .i64 0, .int .i64 0, .int .i64 0, .int .i64 0, .int .i64 0] 28), (X, .cells #[.slice q1 n d, .int .i64 c, .int .i64 t, .int .i64 lo2, .int .i64 hi2, .int .i64 sp, .int .i64 sh2] 28), (Y, .cells #[.int .i64 tick, .int .i64 load, .int .i64 want, .int .i64 repl, .int .i64 why] 53)])) (stab_advsIn (A := w.heap.size + 2) (B := X) (q := q1) (l := l))
          go_wp2
          refine ⟨_, ⟨S9.out.1.setCell 2 6 (.int .i64 sh2) rfl, S9.out.2.setCell X 6 (.inr (Nat.le_refl _)) _⟩, hst2, ?_⟩
          try simp only [act_norm]
          refine wpAnyE_done (by kernel_rfl) (fun wd2 hS => ?_) _
          have S10 := Lib.hid hS
          clear hS S9 z6 c6
          go_wp2
          refine ⟨⟨k + 1, by omega, by go_num, ?_, S10.out.2⟩, by simp [intOf]; omega⟩
          rw [HL2.out, HH2.out, HSP2.out, HSH2.out]
          exact Mem.init (cs := [(Y, .cells #[.int .i64 tick, .int .i64 load, .int .i64 want, .int .i64 repl, .int .i64 why] 53)]) S10.out.1
    · obtain rfl : k = n := by omega
      have K0 := Lib.hid (MK.out.heap 1 rfl)
      have K1 := Lib.hid (MK.out.heap 2 rfl)
      have d0 : decide ((k:Int) < k) = false := by simp
      obtain ⟨lo, elo⟩ : ∃ x, x = Tri.lo g k := ⟨_, rfl⟩
      obtain ⟨hi, ehi⟩ : ∃ x, x = Tri.hi g k := ⟨_, rfl⟩
      obtain ⟨sp, esp⟩ : ∃ x, x = Tri.sp f k := ⟨_, rfl⟩
      obtain ⟨sh, esh⟩ : ∃ x, x = Tri.sh f k := ⟨_, rfl⟩
      rw [← elo, ← ehi, ← esp, ← esh] at MK K1
      have E := Lib.hid (And.intro elo (And.intro ehi (And.intro esp esh)))
      clear elo ehi esp esh
      go_wp2_with (first | ((with_reducible refine wpList_load_rowAs rfl 28 _ rfl (X) ?_ 28 #[.slice q1 k d, .int .i64 c, .int .i64 t, .int .i64 lo, .int .i64 hi, .int .i64 sp, .int .i64 sh] (0, 0) _ 7 ?_ Tryz.underlying28 rfl (by kernel_rfl) ?_ ?_); exact rfl; exact K1.out; exact rfl) | ((with_reducible refine wpList_store_rowAs rfl 28 _ _ rfl (w.heap.size + 1) #[.slice q1 k d, .int .i64 c, .int .i64 t, .int .i64 lo, .int .i64 hi, .int .i64 sp, .int .i64 sh] ?_ ?_ 28 #[.slice none 0 0, .int .i64 0, .int .i64 0, .int .i64 0, .int .i64 0, .int .i64 0, .int .i64 0] 7 ?_ (by kernel_rfl) rfl rfl (by simp [Value.oneCell']) ?_); exact rfl; exact rfl; exact K0.out))
      have MF := Lib.hid (MK.out.setRow 1 (cs := #[.slice q1 k d, .int .i64 c, .int .i64 t, .int .i64 lo, .int .i64 hi, .int .i64 sp, .int .i64 sh]) rfl)
      have QF := Lib.hid (QK.out.setRow (w.heap.size + 1) (.inl (by omega)) (#[.slice q1 k d, .int .i64 c, .int .i64 t, .int .i64 lo, .int .i64 hi, .int .i64 sp, .int .i64 sh]))
      exact bodyPost_ret (results_cell_row rfl _ _ (w.heap.size + 1) 28 #[.slice q1 k d, .int .i64 c, .int .i64 t, .int .i64 lo, .int .i64 hi, .int .i64 sp, .int .i64 sh] (0, 0) _ rfl (MF.out.heap 1 rfl) Tryz.underlying28 rfl (by kernel_rfl)) rfl ⟨_, _, (by rw [← E.out.1, ← E.out.2.1, ← E.out.2.2.1, ← E.out.2.2.2]; rfl), QF.out.wide (by omega) (Nat.le_of_lt (MF.out.lt (i := 2) rfl)), Z1.out, MF.out.below⟩
end Go.Proofs.YtildjnibdappnaaGreat
