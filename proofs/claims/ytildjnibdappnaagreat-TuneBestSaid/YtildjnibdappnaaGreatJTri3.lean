/- Layer 44: what a policy would have done, by the reference. -/
import Derived.Test.YtildjnibdappnaaGreatJTriD
import Derived.BigRegion
import Derived.Deep.CutRange
namespace Go.Proofs.YtildjnibdappnaaGreat
open Go.ChangeShapes Go.WideShapes Go.ChangeAt Go.RowKit

set_option maxHeartbeats 8000000 in
set_option maxRecDepth 100000 in
theorem ref44_judge (p : Pol) (hp : p.In) (q : Option Addr) (n cap : Nat) (l : List Adv) (hn : l.length = n) (hin : ∀ a ∈ l, a.In) (hb : n ≤ 100000) (w : World) (hs : Advs w q l) :
    Calls Tryz.prog 10 #[.agg #[.int .i64 p.mn, .int .i64 p.mx, .int .i64 p.tg, .int .i64 p.tl, .int .i64 p.wi, .int .i64 p.ho], .slice q n cap] w fun e w' => e = .returned (.agg (Tri.row (.slice q n cap) (Adv.changes (Adv.rep l) n : Nat) ((Adv.turns (Adv.rep l) n).1 : Nat) (Tri.lo (Adv.rep l) n) (Tri.hi (Adv.rep l) n) (Tri.sp (Tri.left p.tg l) n) (Tri.sh (Tri.left p.tg l) n))) ∧
      Below w.heap.size w w' := by
  have f3 := fun W : World => fun h : Advs W q l => ref15_turns q cap l (by omega) W h
  rw [hn] at f3
  obtain ⟨t, et⟩ : ∃ x, x = (Adv.turns (Adv.rep l) n).1 := ⟨_, rfl⟩
  simp only [← et] at f3 ⊢
  have HIN := Lib.hid (fun k (hk : k < n) => hin (l[k]?.getD default) (by rw [List.getElem?_eq_getElem (by omega)]; exact List.getElem_mem _))
  have HN := Lib.hid hn
  have HS := Lib.hid hs
  have F3 := Lib.hid f3
  have hptg : I64 p.tg := by unfold Pol.In at hp; simp_all
  have HTG := Lib.hid hptg
  have HG := Lib.hid (show Adv.rep l = fun k => (l[k]?.getD default).repl from rfl)
  have HF := Lib.hid (show Tri.left p.tg l = fun k => Sat.clamp (Sat.clamp ((l[k]?.getD default).repl * p.tg) - (l[k]?.getD default).load) from rfl)
  have HR := Lib.hid (fun k (hk : k < l.length) => hs.rep k hk)
  obtain ⟨g, eg⟩ : ∃ x, x = Adv.rep l := ⟨_, rfl⟩
  obtain ⟨f, ef⟩ : ∃ x, x = Tri.left p.tg l := ⟨_, rfl⟩
  rw [← eg] at HG HR ⊢
  rw [← ef] at HF ⊢
  clear f3 et hptg hp hin hn hs eg ef
  go_enter Tryz.func10, Tryz.ntmps10
  go_wp2_with fail
  (with_reducible refine (F3.out _ (HS.out.below (below2 _ _ _))).mono ?_)
  rintro e w3 ⟨rfl, hb3⟩
  have M3 := Lib.hid (((((Mem.start w).alloc (.cells #[.int .i64 p.mn, .int .i64 p.mx, .int .i64 p.tg, .int .i64 p.tl, .int .i64 p.wi, .int .i64 p.ho] 23)).allocAs (w.heap.size + 1) (.cells #[.slice none 0 0, .int .i64 0, .int .i64 0, .int .i64 0, .int .i64 0, .int .i64 0, .int .i64 0] 34) (by simp)).call hb3).alloc (.cells #[.slice q n cap, .int .i64 0, .int .i64 t, .int .i64 0, .int .i64 0, .int .i64 0, .int .i64 0] 34))
  clear hb3
  go_wp2_with ((with_reducible refine wpList_store_rowAs rfl 34 _ _ rfl (w3.heap.size) #[.slice q n cap, .int .i64 0, .int .i64 t, .int .i64 0, .int .i64 0, .int .i64 0, .int .i64 0] ?_ ?_ 34 #[.slice none 0 0, .int .i64 0, .int .i64 0, .int .i64 0, .int .i64 0, .int .i64 0, .int .i64 0] 7 ?_ (by kernel_rfl) rfl rfl (by simp [Value.oneCell']) ?_); exact rfl; exact rfl; exact (heap_alloc_at _ _ _ rfl); (first | rw [row_1_0] | rw [row_2_0] | rw [row_2_1] | rw [row_3_0] | rw [row_3_1] | rw [row_3_2] | rw [row_4_0] | rw [row_4_1] | rw [row_4_2] | rw [row_4_3] | rw [row_5_0] | rw [row_5_1] | rw [row_5_2] | rw [row_5_3] | rw [row_5_4] | rw [row_6_0] | rw [row_6_1] | rw [row_6_2] | rw [row_6_3] | rw [row_6_4] | rw [row_6_5] | simp only [setRow_alloc_past, setRow_alloc_at, World.size_alloc, Nat.add_assoc, Nat.reduceAdd, Nat.lt_add_right_iff_pos, Nat.add_lt_add_iff_left, Nat.reduceLT, Nat.zero_lt_succ, Nat.lt_add_one]))
  obtain ⟨X, hX⟩ : ∃ X, X = w3.heap.size := ⟨_, rfl⟩
  rw [← hX] at M3 ⊢
  obtain ⟨w4, e4⟩ : ∃ W, W = w3.alloc (.cells #[.slice q n cap, .int .i64 0, .int .i64 t, .int .i64 0, .int .i64 0, .int .i64 0, .int .i64 0] 34) := ⟨_, rfl⟩
  rw [← e4] at M3 ⊢
  clear hX e4
  go_loopw [6] (fun i wr => ∃ k : Nat, k ≤ n ∧ i = .int .i64 k ∧ Mem w wr [(w.heap.size, .cells #[.int .i64 p.mn, .int .i64 p.mx, .int .i64 p.tg, .int .i64 p.tl, .int .i64 p.wi, .int .i64 p.ho] 23), (w.heap.size + 1, .cells #[.slice none 0 0, .int .i64 0, .int .i64 0, .int .i64 0, .int .i64 0, .int .i64 0, .int .i64 0] 34), (X, .cells #[.slice q n cap, .int .i64 (Adv.changes g k : Nat), .int .i64 t, .int .i64 (Tri.lo g k), .int .i64 (Tri.hi g k), .int .i64 (Tri.sp f k), .int .i64 (Tri.sh f k)] 34)]) (fun i _ => n - (intOf i).toNat)
  case atStart => exact ⟨0, by omega, rfl, M3.out⟩
  case round =>
    obtain ⟨k, hk, rfl, hM⟩ := hrel
    have MK := Lib.hid hM
    clear hM M3
    by_cases hlt : k < n
    · have hkl : k < l.length := by have := HN.out; omega
      obtain ⟨b, off, rfl, hbw, hc⟩ := HS.out.cells k hkl
      have hai := HIN.out k hlt
      have hgk : g k = (l[k]?.getD default).repl := by rw [HG.out]
      have hfk : f k = Sat.clamp (Sat.clamp ((l[k]?.getD default).repl * p.tg) - (l[k]?.getD default).load) := by rw [HF.out]
      have A1 := Lib.hid (fun W : World => fun h : Below w.heap.size w W => (HS.out.below h).at k hkl)
      obtain ⟨a, ea⟩ : ∃ a, a = l[k]?.getD default := ⟨_, rfl⟩
      rw [← ea] at hai hgk hfk
      simp only [← ea] at A1
      obtain ⟨tick, load, want, repl, why⟩ := a
      obtain ⟨_, i1, _, i3, _⟩ := hai
      simp only at A1 i1 i3 hgk hfk
      obtain ⟨ch, ech⟩ : ∃ x, x = Adv.changes g k := ⟨_, rfl⟩
      obtain ⟨lo, elo⟩ : ∃ x, x = Tri.lo g k := ⟨_, rfl⟩
      obtain ⟨hi, ehi⟩ : ∃ x, x = Tri.hi g k := ⟨_, rfl⟩
      obtain ⟨sp, esp⟩ : ∃ x, x = Tri.sp f k := ⟨_, rfl⟩
      obtain ⟨sh, esh⟩ : ∃ x, x = Tri.sh f k := ⟨_, rfl⟩
      have hcle : ch ≤ k := by rw [ech]; exact Adv.changes_le _ _
      have isp : I64 sp := by rw [esp]; exact Tri.sp_I64 f k
      have ish : I64 sh := by rw [esh]; exact Tri.sh_I64 f k
      obtain ⟨m, em⟩ : ∃ x, x = Sat.clamp (repl * p.tg) := ⟨_, rfl⟩
      obtain ⟨r, er⟩ : ∃ x, x = Sat.clamp (m - load) := ⟨_, rfl⟩
      rw [← em, ← er] at hfk
      have im : I64 m := by rw [em]; exact Sat.clamp_I64 _
      have ir : I64 r := by rw [er]; exact Sat.clamp_I64 _
      have g1 := fun W => (ref_mul repl p.tg i3 HTG.out W).mono fun e w' h => And.intro h.1 h.2.symm
      have g2 := fun W => (ref_sub m load im i1 W).mono fun e w' h => And.intro h.1 h.2.symm
      rw [← em] at g1
      rw [← er] at g2
      have G1 := Lib.hid g1
      have G2 := Lib.hid g2
      have HLO := Lib.hid (show Tri.lo g (k + 1) = if k = 0 then g 0 else min (Tri.lo g k) (g k) from rfl)
      have HHI := Lib.hid (show Tri.hi g (k + 1) = if k = 0 then g 0 else max (Tri.hi g k) (g k) from rfl)
      have HSP := Lib.hid (show Tri.sp f (k + 1) = if 0 ≤ f k then Sat.clamp (Tri.sp f k + f k) else Tri.sp f k from rfl)
      have HSH := Lib.hid (show Tri.sh f (k + 1) = if 0 ≤ f k then Tri.sh f k else Sat.clamp (Tri.sh f k + Sat.clamp (0 - f k)) from rfl)
      rw [← ech, ← elo, ← ehi, ← esp, ← esh] at MK
      rw [← elo] at HLO
      rw [← ehi] at HHI
      rw [← esp] at HSP
      rw [← esh] at HSH
      rw [hfk] at HSP HSH
      have HCH := Lib.hid ech
      have HGK := Lib.hid hgk
      have HI := Lib.hid (And.intro isp (And.intro ish ir))
      have HC0 := Lib.hid hcle
      clear ea ech elo ehi esp esh em er g1 g2 hfk hgk i1 i3 im isp ish ir hcle hc
      obtain ⟨c0, c1, c2, c3, c4⟩ := A1.out _ MK.out.below
      go_upto_region 6 with fail
      go_cut [35] from 13 to 82 (fun s35 wx => Mem w wx [(w.heap.size, .cells #[.int .i64 p.mn, .int .i64 p.mx, .int .i64 p.tg, .int .i64 p.tl, .int .i64 p.wi, .int .i64 p.ho] 23), (w.heap.size + 1, .cells #[.slice none 0 0, .int .i64 0, .int .i64 0, .int .i64 0, .int .i64 0, .int .i64 0, .int .i64 0] 34), (X, .cells #[.slice (some ⟨b, off, none⟩) n cap, .int .i64 ch, .int .i64 t, .int .i64 lo, .int .i64 hi, .int .i64 sp, .int .i64 sh] 34)] ∧ ∃ cb : Bool, s35 = .bool cb ∧ Hid (Adv.changes g (k + 1) = if cb then ch + 1 else ch))
      case first =>
        by_cases k0 : k = 0
        · subst k0
          have hx : Adv.changes g (0 + 1) = ch := by rw [HCH.out]; rfl
          have HX := Lib.hid hx
          clear hx
          go_wp2_with fail
          go_meet
          exact ⟨MK.out, _, rfl, HX.out⟩
        · obtain ⟨j, rfl⟩ : ∃ j, k = j + 1 := ⟨k - 1, by omega⟩
          have hs1 := Adv.changes_same (g := g) (k := j + 1) (by omega)
          have hs2 := Adv.changes_more (g := g) (k := j + 1) (by omega)
          rw [Nat.add_sub_cancel] at hs1 hs2
          have c9 := ((HS.out.below MK.out.below).at j (by omega)).2.2.2.1
          have hg1 : g j = (l[j]?.getD default).repl := by rw [HG.out]
          rw [← hg1] at c9
          rw [HGK.out, ← HCH.out] at hs1 hs2
          have d0 : decide ((0:Int) < (j:Int) + 1) = true := decide_eq_true (by omega)
          obtain ⟨y, ey⟩ : ∃ y, y = g j := ⟨_, rfl⟩
          rw [← ey] at c9 hs1 hs2
          have S1 := Lib.hid hs1
          have S2 := Lib.hid hs2
          clear hs1 hs2 hg1 ey k0
          have i1 : (0 : Int) ≤ j := by omega
          have i2 : (j : Int) + 1 < n := by omega
          by_cases hxy : repl = y
          · have d1 : (repl != y) = false := by simp [hxy]
            have HX := Lib.hid (S1.out hxy)
            clear hxy
            go_wp2_with fail
            go_meet
            exact ⟨MK.out, _, rfl, HX.out⟩
          · have d1 : (repl != y) = true := by simpa using hxy
            have HX := Lib.hid (S2.out hxy)
            clear hxy
            go_wp2_with fail
            go_meet
            exact ⟨MK.out, _, rfl, HX.out⟩
      case rest =>
        obtain ⟨hM, cb, rfl, HX⟩ := hcut
        clear MK HCH
        obtain ⟨wa, ewa⟩ : ∃ W, W = wc := ⟨_, rfl⟩
        rw [← ewa] at hM ⊢
        clear ewa c0 c1 c2 c3 c4
        have MA := Lib.hid hM
        clear hM
        obtain ⟨ch2, ech2⟩ : ∃ x, x = Adv.changes g (k + 1) := ⟨_, rfl⟩
        rw [← ech2] at HX
        have EC := Lib.hid ech2
        clear ech2
        go_upto_if 35 with fail
        go_cut [] from 13 to 82 (fun wx => Mem w wx [(w.heap.size, .cells #[.int .i64 p.mn, .int .i64 p.mx, .int .i64 p.tg, .int .i64 p.tl, .int .i64 p.wi, .int .i64 p.ho] 23), (w.heap.size + 1, .cells #[.slice none 0 0, .int .i64 0, .int .i64 0, .int .i64 0, .int .i64 0, .int .i64 0, .int .i64 0] 34), (X, .cells #[.slice (some ⟨b, off, none⟩) n cap, .int .i64 ch2, .int .i64 t, .int .i64 lo, .int .i64 hi, .int .i64 sp, .int .i64 sh] 34)])
        case first =>
          cases cb with
          | false =>
            have hx : ch2 = ch := HX.out
            have HX2 := Lib.hid hx
            clear hx HX
            go_wp2_with fail
            go_meet
            exact (by rw [HX2.out]; exact MA.out)
          | true =>
            have hx : ch2 = ch + 1 := HX.out
            have HX2 := Lib.hid hx
            have hle := HC0.out
            have c1 : wa.cell? ⟨X, 1, none⟩ = some (.int .i64 ch) := MA.out.cell 2 1 rfl rfl
            have z1 := MA.out.free 2 1 rfl
            clear hx HX
            go_wp2_with fail
            go_meet
            exact (by rw [HX2.out]; exact MA.out.setCell 2 1 (.int .i64 ((ch:Int) + 1)) rfl)
        case rest =>
          have hM := hcut
          clear MA HX HC0 hcut
          obtain ⟨wb, ewa⟩ : ∃ W, W = wc := ⟨_, rfl⟩
          rw [← ewa] at hM ⊢
          clear ewa wa
          have MA := Lib.hid hM
          clear hM
          go_upto_region 8 with fail
          go_cut [47] from 13 to 82 (fun s47 wx => Mem w wx [(w.heap.size, .cells #[.int .i64 p.mn, .int .i64 p.mx, .int .i64 p.tg, .int .i64 p.tl, .int .i64 p.wi, .int .i64 p.ho] 23), (w.heap.size + 1, .cells #[.slice none 0 0, .int .i64 0, .int .i64 0, .int .i64 0, .int .i64 0, .int .i64 0, .int .i64 0] 34), (X, .cells #[.slice (some ⟨b, off, none⟩) n cap, .int .i64 ch2, .int .i64 t, .int .i64 lo, .int .i64 hi, .int .i64 sp, .int .i64 sh] 34)] ∧ ∃ cb : Bool, s47 = .bool cb ∧ Hid (Tri.lo g (k + 1) = if cb then repl else lo))
          case first =>
            by_cases k0 : k = 0
            · subst k0
              have HX := Lib.hid (HLO.out.trans ((if_pos rfl).trans HGK.out))
              go_wp2_with fail
              go_meet
              exact ⟨MA.out, true, rfl, HX.out⟩
            · have e0 : ((k:Int) == 0) = false := beq_eq_false_iff_ne.2 (by omega)
              have HX := Lib.hid (HLO.out.trans ((if_neg k0).trans (by rw [HGK.out])))
              have c3 : wb.cell? ⟨X, 3, none⟩ = some (.int .i64 lo) := MA.out.cell 2 3 rfl rfl
              clear k0
              by_cases m1 : repl < lo
              · have d1 : decide (repl < lo) = true := decide_eq_true m1
                go_wp2_with fail
                go_meet
                exact ⟨MA.out, true, rfl, HX.out.trans (by simp only [if_true]; omega)⟩
              · have d1 : decide (repl < lo) = false := decide_eq_false m1
                go_wp2_with fail
                go_meet
                exact ⟨MA.out, false, rfl, HX.out.trans (by simp only [Bool.false_eq_true, if_false]; omega)⟩
          case rest =>
            obtain ⟨hM, cb, rfl, HX⟩ := hcut
            clear HLO MA
            obtain ⟨wd1, ewa⟩ : ∃ W, W = wc := ⟨_, rfl⟩
            rw [← ewa] at hM ⊢
            clear ewa wb
            have MA := Lib.hid hM
            clear hM
            obtain ⟨lo2, ech2⟩ : ∃ x, x = Tri.lo g (k + 1) := ⟨_, rfl⟩
            rw [← ech2] at HX
            have Elo2 := Lib.hid ech2
            clear ech2
            go_upto_if 47 with fail
            go_cut [] from 13 to 82 (fun wx => Mem w wx [(w.heap.size, .cells #[.int .i64 p.mn, .int .i64 p.mx, .int .i64 p.tg, .int .i64 p.tl, .int .i64 p.wi, .int .i64 p.ho] 23), (w.heap.size + 1, .cells #[.slice none 0 0, .int .i64 0, .int .i64 0, .int .i64 0, .int .i64 0, .int .i64 0, .int .i64 0] 34), (X, .cells #[.slice (some ⟨b, off, none⟩) n cap, .int .i64 ch2, .int .i64 t, .int .i64 lo2, .int .i64 hi, .int .i64 sp, .int .i64 sh] 34)])
            case first =>
              cases cb with
              | false =>
                have hx : lo2 = lo := HX.out
                have HX2 := Lib.hid hx
                clear hx HX
                go_wp2_with fail
                go_meet
                exact (by rw [HX2.out]; exact MA.out)
              | true =>
                have hx : lo2 = repl := HX.out
                have HX2 := Lib.hid hx
                have c1 : wd1.cell? ⟨X, 3, none⟩ = some (.int .i64 lo) := MA.out.cell 2 3 rfl rfl
                have z1 := MA.out.free 2 3 rfl
                clear hx HX
                go_wp2_with fail
                go_meet
                exact (by rw [HX2.out]; exact MA.out.setCell 2 3 (.int .i64 repl) rfl)
            case rest =>
              have hM := hcut
              clear MA HX hcut
              obtain ⟨wd2, ewa⟩ : ∃ W, W = wc := ⟨_, rfl⟩
              rw [← ewa] at hM ⊢
              clear ewa wd1
              have MA := Lib.hid hM
              clear hM
              go_upto_region 10 with fail
              go_cut [57] from 13 to 82 (fun s57 wx => Mem w wx [(w.heap.size, .cells #[.int .i64 p.mn, .int .i64 p.mx, .int .i64 p.tg, .int .i64 p.tl, .int .i64 p.wi, .int .i64 p.ho] 23), (w.heap.size + 1, .cells #[.slice none 0 0, .int .i64 0, .int .i64 0, .int .i64 0, .int .i64 0, .int .i64 0, .int .i64 0] 34), (X, .cells #[.slice (some ⟨b, off, none⟩) n cap, .int .i64 ch2, .int .i64 t, .int .i64 lo2, .int .i64 hi, .int .i64 sp, .int .i64 sh] 34)] ∧ ∃ cb : Bool, s57 = .bool cb ∧ Hid (Tri.hi g (k + 1) = if cb then repl else hi))
              case first =>
                by_cases k0 : k = 0
                · subst k0
                  have HX := Lib.hid (HHI.out.trans ((if_pos rfl).trans HGK.out))
                  go_wp2_with fail
                  go_meet
                  exact ⟨MA.out, true, rfl, HX.out⟩
                · have e0 : ((k:Int) == 0) = false := beq_eq_false_iff_ne.2 (by omega)
                  have HX := Lib.hid (HHI.out.trans ((if_neg k0).trans (by rw [HGK.out])))
                  have c3 : wd2.cell? ⟨X, 4, none⟩ = some (.int .i64 hi) := MA.out.cell 2 4 rfl rfl
                  clear k0
                  by_cases m1 : hi < repl
                  · have d1 : decide (hi < repl) = true := decide_eq_true m1
                    go_wp2_with fail
                    go_meet
                    exact ⟨MA.out, true, rfl, HX.out.trans (by simp only [if_true]; omega)⟩
                  · have d1 : decide (hi < repl) = false := decide_eq_false m1
                    go_wp2_with fail
                    go_meet
                    exact ⟨MA.out, false, rfl, HX.out.trans (by simp only [Bool.false_eq_true, if_false]; omega)⟩
              case rest =>
                obtain ⟨hM, cb, rfl, HX⟩ := hcut
                clear HHI MA
                obtain ⟨wd3, ewa⟩ : ∃ W, W = wc := ⟨_, rfl⟩
                rw [← ewa] at hM ⊢
                clear ewa wd2
                have MA := Lib.hid hM
                clear hM
                obtain ⟨hi2, ech2⟩ : ∃ x, x = Tri.hi g (k + 1) := ⟨_, rfl⟩
                rw [← ech2] at HX
                have Ehi2 := Lib.hid ech2
                clear ech2
                go_upto_if 57 with fail
                go_cut [] from 13 to 82 (fun wx => Mem w wx [(w.heap.size, .cells #[.int .i64 p.mn, .int .i64 p.mx, .int .i64 p.tg, .int .i64 p.tl, .int .i64 p.wi, .int .i64 p.ho] 23), (w.heap.size + 1, .cells #[.slice none 0 0, .int .i64 0, .int .i64 0, .int .i64 0, .int .i64 0, .int .i64 0, .int .i64 0] 34), (X, .cells #[.slice (some ⟨b, off, none⟩) n cap, .int .i64 ch2, .int .i64 t, .int .i64 lo2, .int .i64 hi2, .int .i64 sp, .int .i64 sh] 34)])
                case first =>
                  cases cb with
                  | false =>
                    have hx : hi2 = hi := HX.out
                    have HX2 := Lib.hid hx
                    clear hx HX
                    go_wp2_with fail
                    go_meet
                    exact (by rw [HX2.out]; exact MA.out)
                  | true =>
                    have hx : hi2 = repl := HX.out
                    have HX2 := Lib.hid hx
                    have c1 : wd3.cell? ⟨X, 4, none⟩ = some (.int .i64 hi) := MA.out.cell 2 4 rfl rfl
                    have z1 := MA.out.free 2 4 rfl
                    clear hx HX
                    go_wp2_with fail
                    go_meet
                    exact (by rw [HX2.out]; exact MA.out.setCell 2 4 (.int .i64 repl) rfl)
                case rest =>
                  have hM := hcut
                  clear MA HX hcut
                  obtain ⟨w7, ewa⟩ : ∃ W, W = wc := ⟨_, rfl⟩
                  rw [← ewa] at hM ⊢
                  clear ewa wd3
                  have MA := Lib.hid hM
                  clear hM
                  obtain ⟨c0, c1, c2, c3, c4⟩ := A1.out _ MA.out.below
                  have b2 : w7.cell? ⟨w.heap.size, 2, none⟩ = some (.int .i64 p.tg) := MA.out.cell 0 2 rfl rfl
                  have hst := stab_mem (w := w) (bs := [(w.heap.size, .cells #[.int .i64 p.mn, .int .i64 p.mx, .int .i64 p.tg, .int .i64 p.tl, .int .i64 p.wi, .int .i64 p.ho] 23), (w.heap.size + 1, .cells #[.slice none 0 0, .int .i64 0, .int .i64 0, .int .i64 0, .int .i64 0, .int .i64 0, .int .i64 0] 34), (X, .cells #[.slice (some ⟨b, off, none⟩) n cap, .int .i64 ch2, .int .i64 t, .int .i64 lo2, .int .i64 hi2, .int .i64 sp, .int .i64 sh] 34)])
                  go_wp2_with fail
                  go_quiet (first | (go_at_call 26; exact Calls.quiet_of_same (G1.out _)) | (go_at_call 25; exact Calls.quiet_of_same (G2.out _)))
                  have S8 := Lib.hid (MA.out.drewN nq)
                  obtain ⟨wd, ewd⟩ : ∃ W, W = w7.drewN nq := ⟨_, rfl⟩
                  rw [← ewd] at S8 ⊢
                  clear MA b2 c0 c1 c2 c3 c4 ewd
                  by_cases hr : 0 ≤ r
                  · have HSP2 := Lib.hid (HSP.out.trans (if_pos hr))
                    have HSH2 := Lib.hid (HSH.out.trans (if_pos hr))
                    have g3 := fun W => ref_add sp r HI.out.1 HI.out.2.2 W
                    obtain ⟨sp2, esp⟩ : ∃ x, x = Sat.clamp (sp + r) := ⟨_, rfl⟩
                    rw [← esp] at g3 HSP2
                    have G3 := Lib.hid g3
                    clear g3 esp HSP HSH
                    have c5 : wd.cell? ⟨X, 5, none⟩ = some (.int .i64 sp) := S8.out.cell 2 5 rfl rfl
                    have z5 := S8.out.free 2 5 rfl
                    go_wp2_with ((with_reducible refine (G3.out _).mono ?_); rintro e w' ⟨rfl, rfl⟩)
                    refine ⟨⟨k + 1, by omega, by go_num, ?_⟩, by simp [intOf]; omega⟩
                    rw [← EC.out, ← Elo2.out, ← Ehi2.out, HSP2.out, HSH2.out]
                    exact S8.out.setCell 2 5 (.int .i64 sp2) rfl
                  · have HSP2 := Lib.hid (HSP.out.trans (if_neg hr))
                    have HSH2 := Lib.hid (HSH.out.trans (if_neg hr))
                    have g3 := fun W => ref_sub 0 r (by unfold I64; omega) HI.out.2.2 W
                    obtain ⟨nr, enr⟩ : ∃ x, x = Sat.clamp (0 - r) := ⟨_, rfl⟩
                    have inr : I64 nr := by rw [enr]; exact Sat.clamp_I64 _
                    have g4 := fun W => ref_add sh nr HI.out.2.1 inr W
                    obtain ⟨sh2, esh⟩ : ∃ x, x = Sat.clamp (sh + nr) := ⟨_, rfl⟩
                    rw [← enr] at g3 HSH2
                    rw [← esh] at g4 HSH2
                    have G3 := Lib.hid g3
                    have G4 := Lib.hid g4
                    clear g3 g4 esh enr inr HSP HSH
                    go_wp2_with fail
                    refine wp_region_E mixed [6] hst (S8.out.drewN 1) ?_
                    refine wpAnyE_take 0 (v := .pointer (some ⟨X, 6, none⟩)) rfl (by kernel_rfl) (by kernel_rfl) (by kernel_rfl) (fun _ _ _ h => h) hst (EffB.run rfl rfl (fun wd hS => ?_)) (.inr (EffB.run rfl rfl (fun wd hS => ?_))) ?_
                    · (go_wp2; exact ⟨rfl, Below.refl _ _⟩)
                    · (go_wp2; exact ⟨rfl, Below.refl _ _⟩)
                    simp only [act_norm]
                    refine wpAnyE_take 1 (v := .int .i64 sh) rfl (by kernel_rfl) (by kernel_rfl) (by kernel_rfl) (fun _ _ _ h => h) hst (EffB.run rfl rfl (fun wd hS => ?_)) (.inl (by kernel_rfl)) ?_
                    · (have c2 : wd.cell? ⟨X, 6, none⟩ = some (.int .i64 sh) := by rw [cell_of_row _ _ _ _ _ _ (hS.heap 2 rfl)]; rfl); go_wp2; exact ⟨rfl, Below.refl _ _⟩
                    simp only [act_norm]
                    refine wpAnyE_take 2 rfl (by kernel_rfl) (by kernel_rfl) (by kernel_rfl) (fun _ _ _ h => h) hst (EffB.pure rfl (fun _ => rfl)) (.inr (EffB.pure rfl (fun _ => rfl))) ?_
                    simp only [act_norm]
                    refine wpAnyE_take 3 (v := .int .i64 nr) rfl (by kernel_rfl) (by kernel_rfl) (by kernel_rfl) (fun _ _ _ h => h) hst (EffB.run rfl rfl (fun wd hS => ?_)) (.inl (by kernel_rfl)) ?_
                    · (go_wp2_with fail; (with_reducible refine (G3.out wd).mono ?_); rintro e w'' ⟨rfl, rfl⟩; exact ⟨rfl, Below.refl _ _⟩)
                    simp only [act_norm]
                    refine wpAnyE_take 4 (v := .int .i64 sh2) rfl (by kernel_rfl) (by kernel_rfl) (by kernel_rfl) (fun _ _ _ h => h) hst (EffB.run rfl rfl (fun wd hS => ?_)) (.inl (by kernel_rfl)) ?_
                    · (go_wp2_with fail; (with_reducible refine (G4.out wd).mono ?_); rintro e w'' ⟨rfl, rfl⟩; exact ⟨rfl, Below.refl _ _⟩)
                    simp only [act_norm]
                    refine wpAnyE_take 5 (v := .pointer (some ⟨X, 6, none⟩)) rfl (by kernel_rfl) (by kernel_rfl) (by kernel_rfl) (fun _ _ _ h => h) hst (EffB.run rfl rfl (fun wd hS => ?_)) (.inr (EffB.run rfl rfl (fun wd hS => ?_))) ?_
                    · (go_wp2; exact ⟨rfl, Below.refl _ _⟩)
                    · (go_wp2; exact ⟨rfl, Below.refl _ _⟩)
                    simp only [act_norm]
                    refine wpAnyE_one 6 rfl (by kernel_rfl) rfl (fun wd hS => ?_)
                    have z6 := hS.free 2 6 rfl
                    have c6 : wd.cell? ⟨X, 6, none⟩ = some (.int .i64 sh) := hS.cell 2 6 rfl rfl
                    have S9 := Lib.hid hS
                    clear hS S8
                    have hst2 := stab_mem (w := w) (bs := [(w.heap.size, .cells #[.int .i64 p.mn, .int .i64 p.mx, .int .i64 p.tg, .int .i64 p.tl, .int .i64 p.wi, .int .i64 p.ho] 23), (w.heap.size + 1, .cells #[.slice none 0 0, .int .i64 0, .int .i64 0, .int .i64 0, .int .i64 0, .int .i64 0, .int .i64 0] 34), (X, .cells #[.slice (some ⟨b, off, none⟩) n cap, .int .i64 ch2, .int .i64 t, .int .i64 lo2, .int .i64 hi2, .int .i64 sp, .int .i64 sh2] 34)])
                    go_wp2
                    refine ⟨_, S9.out.setCell 2 6 (.int .i64 sh2) rfl, hst2, ?_⟩
                    try simp only [act_norm]
                    refine wpAnyE_done (by kernel_rfl) (fun wd2 hS => ?_) _
                    have S10 := Lib.hid hS
                    clear hS S9 z6 c6
                    go_wp2
                    refine ⟨⟨k + 1, by omega, by go_num, ?_⟩, by simp [intOf]; omega⟩
                    rw [← EC.out, ← Elo2.out, ← Ehi2.out, HSP2.out, HSH2.out]
                    exact S10.out
    · obtain rfl : k = n := by omega
      have K0 := Lib.hid (MK.out.heap 1 rfl)
      have K1 := Lib.hid (MK.out.heap 2 rfl)
      have d0 : decide ((k:Int) < k) = false := by simp
      obtain ⟨c, ec⟩ : ∃ x, x = Adv.changes g k := ⟨_, rfl⟩
      obtain ⟨lo, elo⟩ : ∃ x, x = Tri.lo g k := ⟨_, rfl⟩
      obtain ⟨hi, ehi⟩ : ∃ x, x = Tri.hi g k := ⟨_, rfl⟩
      obtain ⟨sp, esp⟩ : ∃ x, x = Tri.sp f k := ⟨_, rfl⟩
      obtain ⟨sh, esh⟩ : ∃ x, x = Tri.sh f k := ⟨_, rfl⟩
      rw [← ec, ← elo, ← ehi, ← esp, ← esh] at MK K1
      have E := Lib.hid (And.intro ec (And.intro elo (And.intro ehi (And.intro esp esh))))
      clear ec elo ehi esp esh
      go_wp2_with (first | ((with_reducible refine wpList_load_rowAs rfl 34 _ rfl (X) ?_ 34 #[.slice q k cap, .int .i64 c, .int .i64 t, .int .i64 lo, .int .i64 hi, .int .i64 sp, .int .i64 sh] (0, 0) _ 7 ?_ Tryz.underlying34 rfl (by kernel_rfl) ?_ ?_); exact rfl; exact K1.out; exact rfl) | ((with_reducible refine wpList_store_rowAs rfl 34 _ _ rfl (w.heap.size + 1) #[.slice q k cap, .int .i64 c, .int .i64 t, .int .i64 lo, .int .i64 hi, .int .i64 sp, .int .i64 sh] ?_ ?_ 34 #[.slice none 0 0, .int .i64 0, .int .i64 0, .int .i64 0, .int .i64 0, .int .i64 0, .int .i64 0] 7 ?_ (by kernel_rfl) rfl rfl (by simp [Value.oneCell']) ?_); exact rfl; exact rfl; exact K0.out))
      have MF := Lib.hid (MK.out.setRow 1 (cs := #[.slice q k cap, .int .i64 c, .int .i64 t, .int .i64 lo, .int .i64 hi, .int .i64 sp, .int .i64 sh]) rfl)
      exact bodyPost_ret (results_cell_row rfl _ _ (w.heap.size + 1) 34 #[.slice q k cap, .int .i64 c, .int .i64 t, .int .i64 lo, .int .i64 hi, .int .i64 sp, .int .i64 sh] (0, 0) _ rfl (MF.out.heap 1 rfl) Tryz.underlying34 rfl (by kernel_rfl)) rfl ⟨(by rw [← E.out.1, ← E.out.2.1, ← E.out.2.2.1, ← E.out.2.2.2.1, ← E.out.2.2.2.2]; rfl), MF.out.below⟩
end Go.Proofs.YtildjnibdappnaaGreat
