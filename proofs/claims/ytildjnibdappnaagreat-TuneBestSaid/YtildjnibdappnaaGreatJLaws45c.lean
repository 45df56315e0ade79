/- Layer 45: the law, walked: the best of some values. -/
import Derived.Test.YtildjnibdappnaaGreatJTuneB3
import Derived.Test.YtildjnibdappnaaGreatJTriOrd2
import Derived.Test.YtildjnibdappnaaGreatJLaws45
namespace Go.Proofs.YtildjnibdappnaaGreat
open Go.ChangeShapes Go.WideShapes Go.ChangeAt Go.RowKit

theorem Res.self (R : Res) : R.cmp R = 0 := Tri.cmp_self _ _ _ _
theorem Res.anti (R S : Res) : R.cmp S = -S.cmp R := Tri.cmp_anti _ _ _ _ _ _ _ _
theorem Res.trans {R S T : Res} (h : R.cmp S ≤ 0) (h2 : S.cmp T ≤ 0) : R.cmp T ≤ 0 := Tri.cmp_trans _ _ _ _ _ _ _ _ _ _ _ _ h h2
theorem Bst.spec (V c : Nat → Int) (S : Nat → Res) : ∀ (k i : Nat) (v : Int) (R : Res) (f : Bool) (vo : Int) (Ro : Res) (co : Int), Bst.go V c S i k v R f = (vo, Ro, co) →
    (co ≠ 0 → vo = 0) ∧ (co = 0 → ((f = true ∧ vo = v) ∨ ∃ j, i ≤ j ∧ j < i + k ∧ V j = vo) ∧ (f = true → Ro.cmp R ≤ 0) ∧ ∀ j, i ≤ j → j < i + k → c j = 0 → Ro.cmp (S j) ≤ 0)
  | 0, i, v, R, f, vo, Ro, co, h => by
    unfold Bst.go at h
    split at h
    · rename_i hf
      cases h
      exact ⟨fun h => absurd rfl h, fun _ => ⟨.inl ⟨hf, rfl⟩, fun _ => by rw [Res.self]; exact Int.le_refl _, fun j h1 h2 => by omega⟩⟩
    · cases h
      exact ⟨fun _ => rfl, fun h => by cases h⟩
  | k + 1, i, v, R, f, vo, Ro, co, h => by
    unfold Bst.go at h
    split at h
    · rename_i h7
      obtain ⟨a1, a2⟩ := Bst.spec V c S k (i + 1) v R f vo Ro co h
      refine ⟨a1, fun h0 => ?_⟩
      obtain ⟨b1, b2, b3⟩ := a2 h0
      refine ⟨?_, b2, fun j h1 h2 h3 => ?_⟩
      · rcases b1 with b1 | ⟨j, g1, g2, g3⟩
        · exact .inl b1
        · exact .inr ⟨j, by omega, by omega, g3⟩
      · by_cases e : j = i
        · subst e; omega
        · exact b3 j (by omega) (by omega) h3
    · rename_i h7
      split at h
      · rename_i h0'
        split at h
        · rename_i hb
          obtain ⟨a1, a2⟩ := Bst.spec V c S k (i + 1) (V i) (S i) true vo Ro co h
          refine ⟨a1, fun h0 => ?_⟩
          obtain ⟨b1, b2, b3⟩ := a2 h0
          have b2 := b2 rfl
          refine ⟨?_, fun hf => ?_, fun j h1 h2 h3 => ?_⟩
          · rcases b1 with b1 | ⟨j, g1, g2, g3⟩
            · exact .inr ⟨i, by omega, by omega, b1.2.symm⟩
            · exact .inr ⟨j, by omega, by omega, g3⟩
          · rcases hb with hb | hb
            · rw [hf] at hb; cases hb
            · exact Res.trans b2 (Int.le_of_lt hb)
          · by_cases e : j = i
            · subst e; exact b2
            · exact b3 j (by omega) (by omega) h3
        · rename_i hb
          obtain ⟨a1, a2⟩ := Bst.spec V c S k (i + 1) v R f vo Ro co h
          refine ⟨a1, fun h0 => ?_⟩
          obtain ⟨b1, b2, b3⟩ := a2 h0
          have hf : f = true := by cases f with | true => rfl | false => exact absurd (.inl rfl) hb
          refine ⟨?_, b2, fun j h1 h2 h3 => ?_⟩
          · rcases b1 with b1 | ⟨j, g1, g2, g3⟩
            · exact .inl b1
            · exact .inr ⟨j, by omega, by omega, g3⟩
          · by_cases e : j = i
            · subst e
              have hlt : ¬ (S j).cmp R < 0 := fun h => hb (.inr h)
              have := Res.anti R (S j)
              exact Res.trans (b2 hf) (by omega)
            · exact b3 j (by omega) (by omega) h3
      · rename_i h0'
        cases h
        exact ⟨fun _ => rfl, fun h => absurd h h0'⟩
theorem Bst.small (V c : Nat → Int) (S : Nat → Res) (B : Nat) (hS : ∀ j, (S j).r.length ≤ B) : ∀ (k i : Nat) (v : Int) (R : Res) (f : Bool), R.r.length ≤ B → (Bst.go V c S i k v R f).2.1.r.length ≤ B
  | 0, i, v, R, f, h => by
    unfold Bst.go
    split
    · exact h
    · exact Nat.zero_le _
  | k + 1, i, v, R, f, h => by
    unfold Bst.go
    split
    · exact Bst.small V c S B hS k (i + 1) v R f h
    · split
      · split
        · exact Bst.small V c S B hS k (i + 1) _ _ _ (hS i)
        · exact Bst.small V c S B hS k (i + 1) v R f h
      · exact Nat.zero_le _
theorem Run.res_len (p : Pol) (l : List Samp) (sa ro : Int) : (Run.res p l sa ro).r.length ≤ l.length := by
  unfold Run.res
  split
  · exact Fol.length_le p l sa ro
  · exact Nat.zero_le _

set_option maxHeartbeats 1000000 in
set_option maxRecDepth 100000 in
theorem tuneBest_long (p : Pol) (fld : Int) (qv : Option Addr) (n capv : Nat) (q : Option Addr) (n' cap : Nat) (h : 8 < n ∨ 10 < n') (sa ro : Int) (w : World) :
    Calls Tryz.prog 4 #[.agg #[.int .i64 p.mn, .int .i64 p.mx, .int .i64 p.tg, .int .i64 p.tl, .int .i64 p.wi, .int .i64 p.ho], .int .i64 fld, .slice qv n capv, .slice q n' cap, .int .i64 sa, .int .i64 ro] w fun e w' => e = .returned (.bool true) ∧ Below w.heap.size w w' := by
  by_cases h1 : 8 < n
  · have d1 : decide ((8 : Int) < n) = true := decide_eq_true (by omega)
    clear h h1
    go_enter Tryz.func4, Tryz.ntmps4
    go_wp2_with fail
    (with_reducible refine (awake45 _).mono ?_)
    rintro e w1 ⟨rfl, hb1⟩
    have M1 := Lib.hid (((Mem.start w).alloc (.cells #[.int .i64 p.mn, .int .i64 p.mx, .int .i64 p.tg, .int .i64 p.tl, .int .i64 p.wi, .int .i64 p.ho] 23)).call hb1)
    have K0 := Lib.hid (M1.out.heap 0 rfl)
    clear hb1
    go_wp2
    go_ret
    exact ⟨rfl, M1.out.below⟩
  have d1 : decide ((8 : Int) < n) = false := decide_eq_false (by omega)
  have d2 : decide ((10 : Int) < n') = true := decide_eq_true (by omega)
  clear h h1
  go_enter Tryz.func4, Tryz.ntmps4
  go_wp2_with fail
  (with_reducible refine (awake45 _).mono ?_)
  rintro e w1 ⟨rfl, hb1⟩
  have M1 := Lib.hid (((Mem.start w).alloc (.cells #[.int .i64 p.mn, .int .i64 p.mx, .int .i64 p.tg, .int .i64 p.tl, .int .i64 p.wi, .int .i64 p.ho] 23)).call hb1)
  have K0 := Lib.hid (M1.out.heap 0 rfl)
  clear hb1
  go_wp2
  go_ret
  exact ⟨rfl, M1.out.below⟩

set_option maxHeartbeats 4000000 in
set_option maxRecDepth 100000 in
theorem tuneBest_fine (p : Pol) (hp : p.In) (fld : Int) (qv : Option Addr) (capv : Nat) (vals : List Int) (hv : ∀ x ∈ vals, I64 x) (hbv : vals.length ≤ 8) (q : Option Addr) (cap : Nat) (l : List Samp) (hl : ∀ a ∈ l, a.In) (hb : l.length ≤ 10) (sa ro : Int) (w : World) (hsv : Ints .i64 w qv vals) (hs : Samps w q l) :
    Calls Tryz.prog 4 #[.agg #[.int .i64 p.mn, .int .i64 p.mx, .int .i64 p.tg, .int .i64 p.tl, .int .i64 p.wi, .int .i64 p.ho], .int .i64 fld, .slice qv vals.length capv, .slice q l.length cap, .int .i64 sa, .int .i64 ro] w fun e w' => e = .returned (.bool true) ∧ Below w.heap.size w w' := by
  obtain ⟨o, ho⟩ : ∃ o, Bst.go (fun i => vals[i]?.getD 0) (fun i => Run.code (Pol.with p fld (vals[i]?.getD 0)) sa ro) (fun i => Run.res (Pol.with p fld (vals[i]?.getD 0)) l sa ro) 0 (vals.length - 0) 0 Res.zero false = o := ⟨_, rfl⟩
  have hsm := Bst.small (fun i => vals[i]?.getD 0) (fun i => Run.code (Pol.with p fld (vals[i]?.getD 0)) sa ro) (fun i => Run.res (Pol.with p fld (vals[i]?.getD 0)) l sa ro) 10 (fun j => Nat.le_trans (Run.res_len _ l sa ro) hb) (vals.length - 0) 0 0 Res.zero false (Nat.zero_le _)
  rw [ho] at hsm
  obtain ⟨vo, Ro, co⟩ := o
  simp only at hsm
  have g1 := fun (W : World) (h : Ints .i64 W qv vals) (h2 : Samps W q l) => tune_best p hp fld qv capv vals hv (by omega) q cap l hl (by omega) sa ro W h h2 vo Ro co ho
  have g2 := fun (W : World) (h : Ints .i64 W qv vals) (h2 : Samps W q l) => ref45_best p hp fld qv capv vals hv (by omega) q cap l hl (by omega) sa ro W h h2 vo Ro co ho
  obtain ⟨sp1, sp2⟩ := Bst.spec _ _ _ _ _ _ _ _ _ _ _ ho
  have f1 := fun (i : Nat) (W : World) => tune_with p fld (vals[i]?.getD 0) W
  have hin : ∀ i, i < vals.length → I64 (vals[i]?.getD 0) := fun i hi => by rw [List.getElem?_eq_getElem hi]; exact hv _ (List.getElem_mem _)
  have f2 := fun (i : Nat) (hi : i < vals.length) (W : World) (h : Samps W q l) => trial_run_res (Pol.with p fld (vals[i]?.getD 0)) (Pol.with_In hp fld (hin i hi)) q cap l hl (by omega) sa ro W h
  have hcv := fun (W : World) (h : Below w.heap.size w W) (k : Nat) (hk : k < vals.length) => Ints.at45 (hsv.below h) k hk
  obtain ⟨Q, eQ⟩ : ∃ Q : Nat → Pol, Q = fun i => Pol.with p fld (vals[i]?.getD 0) := ⟨_, rfl⟩
  have hQ : ∀ i, Pol.with p fld (vals[i]?.getD 0) = Q i := fun i => by rw [eQ]
  obtain ⟨V, eV⟩ : ∃ V : Nat → Int, V = fun i => vals[i]?.getD 0 := ⟨_, rfl⟩
  have hV : ∀ i, vals[i]?.getD 0 = V i := fun i => by rw [eV]
  obtain ⟨cc, ec⟩ : ∃ cc : Nat → Int, cc = fun i => Run.code (Pol.with p fld (vals[i]?.getD 0)) sa ro := ⟨_, rfl⟩
  have hcc : ∀ i, Run.code (Q i) sa ro = cc i := fun i => by rw [ec, eQ]
  obtain ⟨SS, eS⟩ : ∃ SS : Nat → Res, SS = fun i => Run.res (Pol.with p fld (vals[i]?.getD 0)) l sa ro := ⟨_, rfl⟩
  have hSS : ∀ i, Run.res (Q i) l sa ro = SS i := fun i => by rw [eS, eQ]
  simp only [hQ, hcc, hSS] at f1 f2 sp2
  simp only [hV] at f1 hcv sp2
  obtain ⟨r, C, T, a, b, x, y⟩ := Ro
  simp only [Res.cells] at g1 g2
  simp only at hsm
  obtain ⟨m, em⟩ : ∃ m, m = r.length := ⟨_, rfl⟩
  simp only [← em] at g1 g2
  have g3 := fun (u u2 : Option Addr) (d d2 : Nat) (W : World) (h : Advs W u r) (h2 : Advs W u2 r) => ref44_same u u2 m d d2 r em.symm (by omega) C T a b x y W h h2
  have B1 := Lib.hid g1
  have B2 := Lib.hid g2
  have B3 := Lib.hid g3
  have F1 := Lib.hid f1
  have F2 := Lib.hid f2
  have HCV := Lib.hid hcv
  have HS := Lib.hid hs
  have HV : Hid (∀ W : World, Below w.heap.size w W → Ints .i64 W qv vals) := fun W h => hsv.below h
  have SP1 := Lib.hid sp1
  have SP2 := Lib.hid sp2
  obtain ⟨n', en'⟩ : ∃ n, n = l.length := ⟨_, rfl⟩
  rw [← en'] at hb
  simp only [← en'] at F2 B1 B2 ⊢
  obtain ⟨n, en⟩ : ∃ n, n = vals.length := ⟨_, rfl⟩
  rw [← en] at hbv
  simp only [← en] at F2 HCV SP2 B1 B2 ⊢
  have dv : decide ((8 : Int) < n) = false := decide_eq_false (by omega)
  have dl : decide ((10 : Int) < n') = false := decide_eq_false (by omega)
  clear f1 f2 g1 g2 g3 hin hcv hs ho en' en eQ eV ec eS hQ hV hcc hSS hsv hv hl hp hb sp1 sp2 em hsm
  go_enter Tryz.func4, Tryz.ntmps4
  go_wp2_with fail
  (with_reducible refine (awake45 _).mono ?_)
  rintro e w1 ⟨rfl, hb1⟩
  have M1 := Lib.hid (((Mem.start w).alloc (.cells #[.int .i64 p.mn, .int .i64 p.mx, .int .i64 p.tg, .int .i64 p.tl, .int .i64 p.wi, .int .i64 p.ho] 23)).call hb1)
  have K0 := Lib.hid (M1.out.heap 0 rfl)
  clear hb1
  go_wp2_with ((with_reducible refine wpList_load_rowAs rfl 23 _ rfl (w.heap.size) ?_ 23 #[.int .i64 p.mn, .int .i64 p.mx, .int .i64 p.tg, .int .i64 p.tl, .int .i64 p.wi, .int .i64 p.ho] (0, 0) _ 6 ?_ Tryz.underlying23 rfl (by kernel_rfl) ?_ ?_); exact rfl; exact K0.out; exact rfl)
  (with_reducible refine (B1.out _ (HV.out _ M1.out.below) (HS.out.below M1.out.below)).mono ?_)
  rintro e w2 ⟨u, d, rfl, hA2, hb2⟩
  have M2 := Lib.hid ((M1.out.call hb2).alloc (.cells #[.slice u m d, .int .i64 C, .int .i64 T, .int .i64 a, .int .i64 b, .int .i64 x, .int .i64 y] 28))
  have A2 := Lib.hid (hA2.below (below1 w2 (.cells #[.slice u m d, .int .i64 C, .int .i64 T, .int .i64 a, .int .i64 b, .int .i64 x, .int .i64 y] 28)))
  have K2 := Lib.hid (M2.out.heap 0 rfl)
  clear hb2 hA2 M1 K0
  go_wp2_with (first | ((with_reducible refine wpList_store_rowAs rfl 28 _ _ rfl (w2.heap.size) #[.slice u m d, .int .i64 C, .int .i64 T, .int .i64 a, .int .i64 b, .int .i64 x, .int .i64 y] ?_ ?_ 28 #[.slice none 0 0, .int .i64 0, .int .i64 0, .int .i64 0, .int .i64 0, .int .i64 0, .int .i64 0] 7 ?_ (by kernel_rfl) rfl rfl (by simp [Value.oneCell']) ?_); exact rfl; exact rfl; exact (heap_alloc_at _ _ _ rfl); (first | rw [row_1_0] | rw [row_2_0] | rw [row_2_1] | rw [row_3_0] | rw [row_3_1] | rw [row_3_2] | rw [row_4_0] | rw [row_4_1] | rw [row_4_2] | rw [row_4_3] | rw [row_5_0] | rw [row_5_1] | rw [row_5_2] | rw [row_5_3] | rw [row_5_4] | rw [row_6_0] | rw [row_6_1] | rw [row_6_2] | rw [row_6_3] | rw [row_6_4] | rw [row_6_5] | simp only [setRow_alloc_past, setRow_alloc_at, World.size_alloc, Nat.add_assoc, Nat.reduceAdd, Nat.lt_add_right_iff_pos, Nat.add_lt_add_iff_left, Nat.reduceLT, Nat.zero_lt_succ, Nat.lt_add_one])) | ((with_reducible refine wpList_load_rowAs rfl 23 _ rfl (w.heap.size) ?_ 23 #[.int .i64 p.mn, .int .i64 p.mx, .int .i64 p.tg, .int .i64 p.tl, .int .i64 p.wi, .int .i64 p.ho] (0, 0) _ 6 ?_ Tryz.underlying23 rfl (by kernel_rfl) ?_ ?_); exact rfl; exact K2.out; exact rfl))
  (with_reducible refine (B2.out _ (HV.out _ M2.out.below) (HS.out.below M2.out.below)).mono ?_)
  rintro e w3 ⟨u2, d2, rfl, hA3, hb3⟩
  have hb3' := hb3.trans ((below1 w3 (.cells #[.slice u2 m d2, .int .i64 C, .int .i64 T, .int .i64 a, .int .i64 b, .int .i64 x, .int .i64 y] 34)).mono hb3.size)
  have M3 := Lib.hid ((M2.out.call hb3).alloc (.cells #[.slice u2 m d2, .int .i64 C, .int .i64 T, .int .i64 a, .int .i64 b, .int .i64 x, .int .i64 y] 34))
  have A3 := Lib.hid (hA3.below (below1 w3 (.cells #[.slice u2 m d2, .int .i64 C, .int .i64 T, .int .i64 a, .int .i64 b, .int .i64 x, .int .i64 y] 34)))
  have A2 := Lib.hid (A2.out.below hb3')
  have K3 := Lib.hid (M3.out.heap 1 rfl)
  have K3' := Lib.hid (M3.out.heap 2 rfl)
  clear hb3 hb3' hA3 M2 K2
  go_wp2_with (first | ((with_reducible refine wpList_store_rowAs rfl 34 _ _ rfl (w3.heap.size) #[.slice u2 m d2, .int .i64 C, .int .i64 T, .int .i64 a, .int .i64 b, .int .i64 x, .int .i64 y] ?_ ?_ 34 #[.slice none 0 0, .int .i64 0, .int .i64 0, .int .i64 0, .int .i64 0, .int .i64 0, .int .i64 0] 7 ?_ (by kernel_rfl) rfl rfl (by simp [Value.oneCell']) ?_); exact rfl; exact rfl; exact (heap_alloc_at _ _ _ rfl); (first | rw [row_1_0] | rw [row_2_0] | rw [row_2_1] | rw [row_3_0] | rw [row_3_1] | rw [row_3_2] | rw [row_4_0] | rw [row_4_1] | rw [row_4_2] | rw [row_4_3] | rw [row_5_0] | rw [row_5_1] | rw [row_5_2] | rw [row_5_3] | rw [row_5_4] | rw [row_6_0] | rw [row_6_1] | rw [row_6_2] | rw [row_6_3] | rw [row_6_4] | rw [row_6_5] | simp only [setRow_alloc_past, setRow_alloc_at, World.size_alloc, Nat.add_assoc, Nat.reduceAdd, Nat.lt_add_right_iff_pos, Nat.add_lt_add_iff_left, Nat.reduceLT, Nat.zero_lt_succ, Nat.lt_add_one])) | ((with_reducible refine wpList_load_rowG ?_ 28 _ rfl (w2.heap.size) ?_ 28 #[.slice u m d, .int .i64 C, .int .i64 T, .int .i64 a, .int .i64 b, .int .i64 x, .int .i64 y] (0, 0) _ 7 ?_ Tryz.underlying28 rfl (by kernel_rfl) ?_ ?_); kernel_rfl; exact rfl; exact K3.out; exact rfl) | ((with_reducible refine wpList_load_rowG ?_ 34 _ rfl (w3.heap.size) ?_ 34 #[.slice u2 m d2, .int .i64 C, .int .i64 T, .int .i64 a, .int .i64 b, .int .i64 x, .int .i64 y] (0, 0) _ 7 ?_ Tryz.underlying34 rfl (by kernel_rfl) ?_ ?_); kernel_rfl; exact rfl; exact K3'.out; exact rfl))
  (with_reducible refine (B3.out _ _ _ _ _ A2.out A3.out).mono ?_)
  rintro e w4 ⟨rfl, hb4⟩
  have M4 := Lib.hid (M3.out.call hb4)
  clear hb4 M3 K3 K3' A2 A3
  by_cases hco : co = 0
  · subst hco
    obtain ⟨s1, _, s3⟩ := SP2.out rfl
    have HSEE : Hid (∃ j, j < n ∧ V j = vo) := by
      rcases s1 with s1 | ⟨j, g1, g2, g3⟩
      · cases s1.1
      · exact ⟨j, by omega, g3⟩
    have HMIN : Hid (∀ j, j < n → cc j = 0 → ¬ (SS j).cmp ⟨r, C, T, a, b, x, y⟩ < 0) := fun j h1 h2 h3 => by
      have h4 := s3 j (by omega) (by omega) h2
      have h5 := Res.anti (SS j) ⟨r, C, T, a, b, x, y⟩
      omega
    clear s1 s3 SP1 SP2
    go_wp2
    go_loopw [19, 76] (fun s i wr => ∃ (k : Nat) (sb : Bool), k ≤ n ∧ i = .int .i64 (k : Nat) ∧ s = .bool sb ∧ Hid (∀ j, j < k → V j = vo → sb = true) ∧ Mem w wr [(w.heap.size, .cells #[.int .i64 p.mn, .int .i64 p.mx, .int .i64 p.tg, .int .i64 p.tl, .int .i64 p.wi, .int .i64 p.ho] 23), (w2.heap.size, .cells #[.slice u m d, .int .i64 C, .int .i64 T, .int .i64 a, .int .i64 b, .int .i64 x, .int .i64 y] 28), (w3.heap.size, .cells #[.slice u2 m d2, .int .i64 C, .int .i64 T, .int .i64 a, .int .i64 b, .int .i64 x, .int .i64 y] 34)]) (fun _ i _ => n - (intOf i).toNat)
    case atStart => exact ⟨0, false, by omega, rfl, rfl, fun j hj => by omega, M4.out⟩
    case round =>
      obtain ⟨k, sb, hk, rfl, rfl, HSB, hM⟩ := hrel
      by_cases hkn : k < n
      · have hkn' : (k : Int) < (n : Int) := by omega
        have f1 := F1.out k
        have f2 := F2.out k hkn
        have hmin := HMIN.out k hkn
        obtain ⟨g, off, rfl, hbw, hcell⟩ := HCV.out wr hM.below k hkn
        have HSB2 : Hid (∀ sb2 : Bool, (sb = true → sb2 = true) → (V k = vo → sb2 = true) → ∀ j, j < k + 1 → V j = vo → sb2 = true) := fun sb2 g1 g2 j hj he => by
          by_cases e : j = k
          · subst e; exact g2 he
          · exact g1 (HSB.out j (by omega) he)
        obtain ⟨xv, exv⟩ : ∃ x, x = V k := ⟨_, rfl⟩
        rw [← exv] at hcell f1 HSB2
        obtain ⟨c, ecc⟩ : ∃ c, c = cc k := ⟨_, rfl⟩
        simp only [← ecc] at f2 hmin
        obtain ⟨S4, eS4⟩ : ∃ S, S = SS k := ⟨_, rfl⟩
        simp only [← eS4] at f2 hmin
        obtain ⟨r4, C4, T4, a4, b4, x4, y4⟩ := S4
        simp only [Res.cells] at f2
        obtain ⟨m4, em4⟩ : ∃ m, m = r4.length := ⟨_, rfl⟩
        simp only [← em4] at f2
        obtain ⟨Qk, eQk⟩ : ∃ Q', Q' = Q k := ⟨_, rfl⟩
        simp only [← eQk] at f1 f2
        obtain ⟨mn, mx, tg, tl, wi, ho⟩ := Qk
        have G1 := Lib.hid f1
        have G2 := Lib.hid f2
        have GM := Lib.hid hmin
        have M5 := Lib.hid hM
        have K5 := Lib.hid (hM.heap 0 rfl)
        clear f1 f2 hmin hM exv ecc eS4 em4 eQk HCV F1 F2 HMIN HSEE HSB
        go_wp2_with ((with_reducible refine wpList_load_rowAs rfl 23 _ rfl (w.heap.size) ?_ 23 #[.int .i64 p.mn, .int .i64 p.mx, .int .i64 p.tg, .int .i64 p.tl, .int .i64 p.wi, .int .i64 p.ho] (0, 0) _ 6 ?_ Tryz.underlying23 rfl (by kernel_rfl) ?_ ?_); exact rfl; exact K5.out; exact rfl)
        (with_reducible refine (G1.out _).mono ?_)
        rintro e w6 ⟨rfl, hb6⟩
        have M6 := Lib.hid (M5.out.call hb6)
        clear hb6 M5 K5
        go_wp2_with fail
        (with_reducible refine (G2.out _ (HS.out.below M6.out.below)).mono ?_)
        rintro e w7 ⟨u4, d4, rfl, _, hb7⟩
        have M7 := Lib.hid ((M6.out.call hb7).alloc (.cells #[.slice u4 m4 d4, .int .i64 C4, .int .i64 T4, .int .i64 a4, .int .i64 b4, .int .i64 x4, .int .i64 y4] 28))
        have K7 := Lib.hid (M7.out.heap 1 rfl)
        have K7' := Lib.hid (M7.out.heap 3 rfl)
        have hcmp := fun W : World => trial_cmp u4 u m4 d4 m d C4 T4 a4 b4 x4 y4 C T a b x y W
        have ez0 : (⟨r4, C4, T4, a4, b4, x4, y4⟩ : Res).cmp ⟨r, C, T, a, b, x, y⟩ = Tri.cmp C4 T4 x4 y4 C T x y := rfl
        obtain ⟨z, ez⟩ : ∃ z, z = Tri.cmp C4 T4 x4 y4 C T x y := ⟨_, rfl⟩
        rw [← ez] at ez0
        simp only [← ez] at hcmp
        simp only [ez0] at GM
        have HCMP := Lib.hid hcmp
        clear ez hcmp ez0 hb7 M6
        obtain ⟨sb2, hsb2, hS2⟩ : ∃ sb2 : Bool, (sb = true ∧ sb2 = true ∨ sb = false ∧ (xv == vo) = sb2) ∧ Hid (∀ j, j < k + 1 → V j = vo → sb2 = true) := by
          cases sb with
          | true => exact ⟨true, .inl ⟨rfl, rfl⟩, HSB2.out true (fun _ => rfl) (fun _ => rfl)⟩
          | false => exact ⟨(xv == vo), .inr ⟨rfl, rfl⟩, HSB2.out _ (fun h => by cases h) (fun h => by simp [h])⟩
        clear HSB2
        by_cases h0 : c = 0
        · subst h0
          have dz : decide (z < 0) = false := decide_eq_false (by have := GM.out (by trivial); omega)
          clear GM
          rcases hsb2 with ⟨rfl, rfl⟩ | ⟨rfl, hx⟩
          · go_wp2_with (first | ((with_reducible refine wpList_store_rowAs rfl 28 _ _ rfl (w7.heap.size) #[.slice u4 m4 d4, .int .i64 C4, .int .i64 T4, .int .i64 a4, .int .i64 b4, .int .i64 x4, .int .i64 y4] ?_ ?_ 28 #[.slice none 0 0, .int .i64 0, .int .i64 0, .int .i64 0, .int .i64 0, .int .i64 0, .int .i64 0] 7 ?_ (by kernel_rfl) rfl rfl (by simp [Value.oneCell']) ?_); exact rfl; exact rfl; exact (heap_alloc_at _ _ _ rfl); (first | rw [row_1_0] | rw [row_2_0] | rw [row_2_1] | rw [row_3_0] | rw [row_3_1] | rw [row_3_2] | rw [row_4_0] | rw [row_4_1] | rw [row_4_2] | rw [row_4_3] | rw [row_5_0] | rw [row_5_1] | rw [row_5_2] | rw [row_5_3] | rw [row_5_4] | rw [row_6_0] | rw [row_6_1] | rw [row_6_2] | rw [row_6_3] | rw [row_6_4] | rw [row_6_5] | simp only [setRow_alloc_past, setRow_alloc_at, World.size_alloc, Nat.add_assoc, Nat.reduceAdd, Nat.lt_add_right_iff_pos, Nat.add_lt_add_iff_left, Nat.reduceLT, Nat.zero_lt_succ, Nat.lt_add_one])) | ((with_reducible refine wpList_load_rowG ?_ 28 _ rfl (w7.heap.size) ?_ 28 #[.slice u4 m4 d4, .int .i64 C4, .int .i64 T4, .int .i64 a4, .int .i64 b4, .int .i64 x4, .int .i64 y4] (0, 0) _ 7 ?_ Tryz.underlying28 rfl (by kernel_rfl) ?_ ?_); kernel_rfl; exact rfl; exact K7'.out; exact rfl) | ((with_reducible refine wpList_load_rowG ?_ 28 _ rfl (w2.heap.size) ?_ 28 #[.slice u m d, .int .i64 C, .int .i64 T, .int .i64 a, .int .i64 b, .int .i64 x, .int .i64 y] (0, 0) _ 7 ?_ Tryz.underlying28 rfl (by kernel_rfl) ?_ ?_); kernel_rfl; exact rfl; exact K7.out; exact rfl))
            (with_reducible refine (HCMP.out _).mono ?_)
            rintro e w8 ⟨rfl, hb8⟩
            have M8 := Lib.hid (M7.out.call hb8)
            clear hb8 M7 K7 K7'
            go_wp2
            exact ⟨⟨k + 1, _, by omega, by go_num, rfl, (fun j hj he => by first | rfl | exact hS2.out j hj he), M8.out.init⟩, by simp [intOf]; omega⟩
          · go_wp2_with (first | ((with_reducible refine wpList_store_rowAs rfl 28 _ _ rfl (w7.heap.size) #[.slice u4 m4 d4, .int .i64 C4, .int .i64 T4, .int .i64 a4, .int .i64 b4, .int .i64 x4, .int .i64 y4] ?_ ?_ 28 #[.slice none 0 0, .int .i64 0, .int .i64 0, .int .i64 0, .int .i64 0, .int .i64 0, .int .i64 0] 7 ?_ (by kernel_rfl) rfl rfl (by simp [Value.oneCell']) ?_); exact rfl; exact rfl; exact (heap_alloc_at _ _ _ rfl); (first | rw [row_1_0] | rw [row_2_0] | rw [row_2_1] | rw [row_3_0] | rw [row_3_1] | rw [row_3_2] | rw [row_4_0] | rw [row_4_1] | rw [row_4_2] | rw [row_4_3] | rw [row_5_0] | rw [row_5_1] | rw [row_5_2] | rw [row_5_3] | rw [row_5_4] | rw [row_6_0] | rw [row_6_1] | rw [row_6_2] | rw [row_6_3] | rw [row_6_4] | rw [row_6_5] | simp only [setRow_alloc_past, setRow_alloc_at, World.size_alloc, Nat.add_assoc, Nat.reduceAdd, Nat.lt_add_right_iff_pos, Nat.add_lt_add_iff_left, Nat.reduceLT, Nat.zero_lt_succ, Nat.lt_add_one])) | ((with_reducible refine wpList_load_rowG ?_ 28 _ rfl (w7.heap.size) ?_ 28 #[.slice u4 m4 d4, .int .i64 C4, .int .i64 T4, .int .i64 a4, .int .i64 b4, .int .i64 x4, .int .i64 y4] (0, 0) _ 7 ?_ Tryz.underlying28 rfl (by kernel_rfl) ?_ ?_); kernel_rfl; exact rfl; exact K7'.out; exact rfl) | ((with_reducible refine wpList_load_rowG ?_ 28 _ rfl (w2.heap.size) ?_ 28 #[.slice u m d, .int .i64 C, .int .i64 T, .int .i64 a, .int .i64 b, .int .i64 x, .int .i64 y] (0, 0) _ 7 ?_ Tryz.underlying28 rfl (by kernel_rfl) ?_ ?_); kernel_rfl; exact rfl; exact K7.out; exact rfl))
            (with_reducible refine (HCMP.out _).mono ?_)
            rintro e w8 ⟨rfl, hb8⟩
            have M8 := Lib.hid (M7.out.call hb8)
            clear hb8 M7 K7 K7'
            go_wp2
            exact ⟨⟨k + 1, _, by omega, by go_num, rfl, (fun j hj he => by first | rfl | exact hS2.out j hj he), M8.out.init⟩, by simp [intOf]; omega⟩
        · have b0 : (c == 0) = false := beq_eq_false_iff_ne.2 h0
          clear GM h0
          rcases hsb2 with ⟨rfl, rfl⟩ | ⟨rfl, hx⟩
          · go_wp2_with ((with_reducible refine wpList_store_rowAs rfl 28 _ _ rfl (w7.heap.size) #[.slice u4 m4 d4, .int .i64 C4, .int .i64 T4, .int .i64 a4, .int .i64 b4, .int .i64 x4, .int .i64 y4] ?_ ?_ 28 #[.slice none 0 0, .int .i64 0, .int .i64 0, .int .i64 0, .int .i64 0, .int .i64 0, .int .i64 0] 7 ?_ (by kernel_rfl) rfl rfl (by simp [Value.oneCell']) ?_); exact rfl; exact rfl; exact (heap_alloc_at _ _ _ rfl); (first | rw [row_1_0] | rw [row_2_0] | rw [row_2_1] | rw [row_3_0] | rw [row_3_1] | rw [row_3_2] | rw [row_4_0] | rw [row_4_1] | rw [row_4_2] | rw [row_4_3] | rw [row_5_0] | rw [row_5_1] | rw [row_5_2] | rw [row_5_3] | rw [row_5_4] | rw [row_6_0] | rw [row_6_1] | rw [row_6_2] | rw [row_6_3] | rw [row_6_4] | rw [row_6_5] | simp only [setRow_alloc_past, setRow_alloc_at, World.size_alloc, Nat.add_assoc, Nat.reduceAdd, Nat.lt_add_right_iff_pos, Nat.add_lt_add_iff_left, Nat.reduceLT, Nat.zero_lt_succ, Nat.lt_add_one]))
            exact ⟨⟨k + 1, _, by omega, by go_num, rfl, (fun j hj he => by first | rfl | exact hS2.out j hj he), M7.out.init⟩, by simp [intOf]; omega⟩
          · go_wp2_with ((with_reducible refine wpList_store_rowAs rfl 28 _ _ rfl (w7.heap.size) #[.slice u4 m4 d4, .int .i64 C4, .int .i64 T4, .int .i64 a4, .int .i64 b4, .int .i64 x4, .int .i64 y4] ?_ ?_ 28 #[.slice none 0 0, .int .i64 0, .int .i64 0, .int .i64 0, .int .i64 0, .int .i64 0, .int .i64 0] 7 ?_ (by kernel_rfl) rfl rfl (by simp [Value.oneCell']) ?_); exact rfl; exact rfl; exact (heap_alloc_at _ _ _ rfl); (first | rw [row_1_0] | rw [row_2_0] | rw [row_2_1] | rw [row_3_0] | rw [row_3_1] | rw [row_3_2] | rw [row_4_0] | rw [row_4_1] | rw [row_4_2] | rw [row_4_3] | rw [row_5_0] | rw [row_5_1] | rw [row_5_2] | rw [row_5_3] | rw [row_5_4] | rw [row_6_0] | rw [row_6_1] | rw [row_6_2] | rw [row_6_3] | rw [row_6_4] | rw [row_6_5] | simp only [setRow_alloc_past, setRow_alloc_at, World.size_alloc, Nat.add_assoc, Nat.reduceAdd, Nat.lt_add_right_iff_pos, Nat.add_lt_add_iff_left, Nat.reduceLT, Nat.zero_lt_succ, Nat.lt_add_one]))
            exact ⟨⟨k + 1, _, by omega, by go_num, rfl, (fun j hj he => by first | rfl | exact hS2.out j hj he), M7.out.init⟩, by simp [intOf]; omega⟩
      · obtain rfl : k = n := by omega
        obtain ⟨j, h1, h2⟩ := HSEE.out
        obtain rfl : sb = true := HSB.out j h1 h2
        have M5 := Lib.hid hM
        clear hM HSB HSEE HMIN HCV
        go_wp2
        go_ret
        exact ⟨rfl, M5.out.below⟩
  · obtain rfl : vo = 0 := SP1.out hco
    have b0 : (co != 0) = true := by simpa using hco
    clear SP1 SP2 hco
    go_wp2
    go_ret
    exact ⟨rfl, M4.out.below⟩

theorem tuneBest_walk (p : Pol) (hp : p.In) (fld : Int) (qv : Option Addr) (capv : Nat) (vals : List Int) (hv : ∀ x ∈ vals, I64 x) (q : Option Addr) (cap : Nat) (l : List Samp) (hl : ∀ a ∈ l, a.In) (sa ro : Int) (w : World) (hsv : Ints .i64 w qv vals) (hs : Samps w q l) :
    Calls Tryz.prog 4 #[.agg #[.int .i64 p.mn, .int .i64 p.mx, .int .i64 p.tg, .int .i64 p.tl, .int .i64 p.wi, .int .i64 p.ho], .int .i64 fld, .slice qv vals.length capv, .slice q l.length cap, .int .i64 sa, .int .i64 ro] w fun e w' => e = .returned (.bool true) ∧ Below w.heap.size w w' := by
  by_cases h : 8 < vals.length ∨ 10 < l.length
  · exact tuneBest_long p fld qv vals.length capv q l.length cap h sa ro w
  · exact tuneBest_fine p hp fld qv capv vals hv (by omega) q cap l hl (by omega) sa ro w hsv hs
end Go.Proofs.YtildjnibdappnaaGreat
