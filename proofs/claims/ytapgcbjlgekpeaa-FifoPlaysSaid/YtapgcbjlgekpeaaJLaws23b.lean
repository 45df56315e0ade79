/- Layer 23: the law, walked: whatever is done to a queue. -/
import Derived.Test.YtapgcbjlgekpeaaJLaws23
import Derived.Deep.CutBlock
namespace Go.Proofs.Ytapgcbjlgekpeaa
open Go.ChangeShapes Go.WideShapes Go.ChangeAt Go.RowKit

section
variable {P : Program} {o : Oper} {a : Act} {w : World} {K : Act → World → Prop} {Q : Exit → Act → World → Prop}
theorem wp_append_ex (d s : Operand) (t t' : TypeId) (ho : o.op = .call { callee := .builtin .append, args := #[d, s], argTypes := #[t, t'] }) (v u : Value) (hd : a.eval d = v) (hs : a.eval s = u) (R : Value → World → Prop)
    (hr : ∀ ty, ∃ v' w', (Builtin.append_ #[t, t'] ty #[v, u]).run P w = .ok v' w' ∧ R v' w') (h : ∀ v' w', R v' w' → K (a.put o.dst v') w') : o.wp P a w K Q := by
  obtain ⟨v', w', h1, h2⟩ := hr o.type
  unfold Oper.wp execOp
  simp only [ho, resolve, invoke, builtin, Sem.run_bind, Sem.run_pure, Result.andThen_ok, List.map_toArray, List.map_cons, List.map_nil, hd, hs, h1]
  exact h _ _ h2
/-- Something appended to an empty slice without room. -/
theorem run_append_empty (w : World) (B X : Nat) (t ty e : TypeId) (z : Value) (size bytes : Nat) (ht : P.underlying t = some (.slice e)) (hi : (P.info? e).map (fun i => (i.zero, i.size, i.bytes)) = some (some z, size, bytes)) (hzs : z.cells.size = size) (hsz : 0 < size)
    (hX : B ≤ X) (hXw : X < w.heap.size) (ao : Option Addr) (m c : Nat) (news : List Value) (hl : news.length = m * size) (hnone : ao = none → m = 0 ∧ c = 0) (hnews : ∀ ad, ao = some ad → ∀ j u, news[j]? = some u → w.cell? (ad.add j) = some u) (h1 : ∀ u ∈ news, u.oneCell' = true)
    (h63 : m ≤ maxLen) (hbytes : m * bytes ≤ 140737488355328) :
    ∃ v' w', (Builtin.append_ #[t, t] ty #[.slice (some ⟨X, 0, none⟩) 0 0, .slice ao m c]).run P w = .ok v' w' ∧ Owns w' B size v' m news ∧ Below w.heap.size w w' := by
  obtain ⟨i, hi1, hi2, hi3, hi4⟩ := info_parts hi
  have hO : ∀ W : World, X < W.heap.size → Owns W B size (.slice (some ⟨X, 0, none⟩) 0 0) 0 [] := fun W hW => ⟨by simp, .inr ⟨X, 0, rfl, hX, hW, Nat.le_refl _, fun j u hu => by simp at hu, fun j hj => by simp at hj⟩⟩
  by_cases hm : m = 0
  · subst hm
    obtain rfl : news = [] := List.eq_nil_of_length_eq_zero (by simpa using hl)
    refine ⟨.slice (some ⟨X, 0, none⟩) 0 0, w, ?_, hO w hXw, Below.refl _ _⟩
    cases ao with
    | none =>
      obtain ⟨_, rfl⟩ := hnone rfl
      simp [Builtin.append_, run_underlying ht, sizeOf, typeInfo, hi1, Builtin.lenOf, Builtin.firstCells, storeCells]
    | some ad =>
      have hrun := run_append_room_cells (P := P) w t ty e i ht hi1 X 0 0 0 ad 0 c [] (by simp) (fun j u hu => by simp at hu) (fun v hv => by simp at hv) (Nat.le_refl _) (fun j hj => by simp at hj) (fun j hj => by simp at hj)
      exact hrun
  · cases ao with
    | none => exact absurd (hnone rfl).1 hm
    | some ad =>
      obtain ⟨v', w', hrun, r1, r2⟩ := run_append_arg_grows (P := P) w t ty e i z size bytes ht hi1 hi2 hi3 hi4 hzs hsz ⟨X, 0, none⟩ 0 0 [] (by simp) (fun j u hu => by simp at hu) ad m c news hl (hnews ad rfl) (by omega) (by rw [Nat.zero_add]; exact h63) (by rw [Nat.zero_add]; exact hbytes)
      rw [Nat.zero_add, List.nil_append] at r1
      exact ⟨v', w', hrun, (owns_of_row r1).mono (by omega), ⟨r2.os, r2.tape, r2.output, r2.size, fun k hk => r2.block k hk (by simp)⟩⟩
end

theorem Ints.news {w : World} {p : Option Addr} {l : List Int} (h : Ints .i64 w p l) : ∀ ad, p = some ad → ∀ j u, (intVals l)[j]? = some u → w.cell? (ad.add j) = some u := by
  intro ad hp j u hu
  have hj : j < l.length := by
    have := (List.getElem?_eq_some_iff.1 hu).1
    simpa [intVals] using this
  rcases h with h | ⟨b, off, h, _, hc⟩
  · omega
  · rw [hp] at h
    cases h
    rw [Addr.add_mid, hc j (by omega), ← hu]
    simp [intVals, hj]
theorem Fq.start2 {w w1 : World} (hb : Below w.heap.size w w1) : Fq w (w1.alloc (.cells #[.slice none 0 0] 79)) w1.heap.size (.slice none 0 0) [] :=
  ⟨⟨heap_alloc_at _ _ _ rfl, rfl, ownsO_nil _ _ _, by simp [Value.ownBlock]⟩, hb.size, hb.alloc hb.size _⟩

set_option maxHeartbeats 4000000 in
set_option maxRecDepth 100000 in
theorem fifoPlays_walk (p : Option Addr) (cap : Nat) (acts : List Samp) (hb : acts.length ≤ 9223372036854775807) (z : Int) (w : World) (hs : Samps w p acts) :
    Calls Try.prog 9 #[.slice p acts.length cap, .int .i64 z] w fun e w' => e = .returned (.bool true) ∧ Below w.heap.size w w' := by
  obtain ⟨n, en⟩ : ∃ n, n = acts.length := ⟨_, rfl⟩
  by_cases h80 : 80 < n
  · have d1 : decide ((80 : Int) < n) = true := decide_eq_true (by omega)
    rw [← en] at hb ⊢
    clear en hs
    go_enter Try.func9, Try.ntmps9
    go_wp2_with fail
    (with_reducible refine (awake23 _).mono ?_)
    rintro e w1 ⟨rfl, hb1⟩
    have B1 := Lib.hid hb1
    clear hb1
    go_wp2
    go_ret
    exact ⟨rfl, B1.out⟩
  have d1 : decide ((80 : Int) < n) = false := decide_eq_false (by omega)
  have hn80 : n ≤ 80 := by omega
  have HS := Lib.hid hs
  have EN := Lib.hid en
  rw [← en] at hb ⊢
  clear hs en hb h80
  go_enter Try.func9, Try.ntmps9
  go_wp2_with fail
  (with_reducible refine (awake23 _).mono ?_)
  rintro e w1 ⟨rfl, hb1⟩
  have F1 := Lib.hid (Fq.start2 hb1)
  have HW1 := Lib.hid hb1.size
  clear hb1
  obtain ⟨b, eb⟩ : ∃ b, b = w1.heap.size := ⟨_, rfl⟩
  rw [← eb] at F1 HW1
  go_wp2
  rw [← eb]
  clear eb
  go_loopw [6, 22] (fun s6 i wr => ∃ (k : Nat) (v : Value) (q : Option Addr) (c : Nat) (L : List Int), k ≤ n ∧ i = .int .i64 (k : Nat) ∧ s6 = .slice q L.length c ∧ L.length ≤ k ∧ Fq w wr b v L ∧ Fl wr b v q c L) (fun _ i _ => n - (intOf i).toNat)
  case atStart => exact ⟨0, _, none, 0, [], by omega, rfl, rfl, by simp, F1.out, .inl rfl, Nat.le_refl _, fun _ => ⟨rfl, rfl⟩, fun _ h => (by cases h)⟩
  case round =>
    obtain ⟨k, v, q, c, L, hk, rfl, rfl, hLk, hQ, hL⟩ := hrel
    by_cases hlt : k < n
    · have hkl : k < acts.length := by have := EN.out; omega
      obtain ⟨bq, off, rfl, hbw, _⟩ := HS.out.cells k hkl
      have hcc := (HS.out.below hQ.below).cells k hkl
      obtain ⟨b', off', e', _, c0, c1⟩ := hcc
      simp only [Option.some.injEq, Addr.mk.injEq, and_true] at e'
      obtain ⟨rfl, rfl⟩ := e'
      obtain ⟨⟨kind, val⟩, ea⟩ : ∃ a, a = acts[k]?.getD default := ⟨_, rfl⟩
      rw [← ea] at c0 c1
      simp only at c0 c1
      have Q3 := Lib.hid (hQ.call (below1 wr (.cells #[.int .i64 kind, .int .i64 val] 81)))
      have L3 := Lib.hid (hL.call (below1 wr (.cells #[.int .i64 kind, .int .i64 val] 81)))
      have SX : Hid (∀ y, (y = b ∨ v.ownBlock = some y) → y < wr.heap.size) := fun y hy => by
        rcases hy with rfl | hy
        · exact hQ.q.lt
        · exact (hQ.q.owns.lt y hy).2
      obtain ⟨Z, hZ⟩ : ∃ Z, Z = wr.heap.size := ⟨_, rfl⟩
      obtain ⟨W3, hW3⟩ : ∃ W, W = wr.alloc (.cells #[.int .i64 kind, .int .i64 val] 81) := ⟨_, rfl⟩
      have KX : Hid (W3.heap[Z]? = some (.cells #[.int .i64 kind, .int .i64 val] 81 (0, 0))) := by show _ = _; rw [hW3]; exact heap_alloc_at _ _ _ hZ
      rw [← hW3] at Q3 L3
      rw [← hZ] at SX
      have hkn : (k : Int) < n := by omega
      have hL80 : L.length ≤ 80 := by omega
      have HKN := Lib.hid (show k + 1 ≤ n by omega)
      have HKM := Lib.hid (show n - (k + 1) < n - k by omega)
      have HLK := Lib.hid hLk
      clear hQ hL ea hkl hbw F1 hLk hk
      obtain ⟨m, em⟩ : ∃ m, m = L.length := ⟨_, rfl⟩
      have EM := Lib.hid em
      rw [← em] at hL80 ⊢
      clear em
      go_upto_block 2 with fail
      rw [← hW3]
      try rw [← hZ]
      clear hW3 hZ c0 c1
      have k0 : W3.cell? ⟨Z, 0, none⟩ = some (.int .i64 kind) := by rw [cell_of_row _ _ _ _ _ _ KX.out]; rfl
      have k1 : W3.cell? ⟨Z, 1, none⟩ = some (.int .i64 val) := by rw [cell_of_row _ _ _ _ _ _ KX.out]; rfl
      go_cut [6, 9, 10, 11, 12] from 26 to 85 (fun s6 s9 s10 s11 s12 wx => ∃ (v : Value) (q : Option Addr) (c : Nat) (L2 : List Int), s6 = .slice q L2.length c ∧ L2.length ≤ k + 1 ∧ Fq w wx b v L2 ∧ Fl wx b v q c L2)
      case first =>
        by_cases hk2 : kind = 2
        · subst hk2
          cases L with
          | nil =>
            obtain rfl : m = 0 := EM.out
            have P1 := Lib.hid (fifoI_get_no Q3.out.q rfl)
            clear k1
            go_wp2_with ((with_reducible refine P1.out.mono ?_); rintro e w4 ⟨rfl, rfl⟩)
            go_meet
            exact ⟨v, q, c, [], rfl, by simp, Q3.out, L3.out⟩
          | cons x l =>
            have P1 := Lib.hid (fifoI_get Q3.out.q rfl)
            obtain ⟨g, o, rfl, _⟩ := L3.out.head
            obtain ⟨m', em'⟩ : ∃ m', m' = l.length := ⟨_, rfl⟩
            obtain rfl : m = m' + 1 := by rw [EM.out, em']; rfl
            have EM2 := Lib.hid em'
            have hcap := L3.out.cap
            rw [List.length_cons, ← em'] at hcap
            have dm : (0 : Int) < ((m' + 1 : Nat) : Int) := by omega
            clear em' EM
            go_wp2_with fail
            (with_reducible refine P1.out.mono ?_)
            rintro e w4 ⟨rfl, hq⟩
            obtain ⟨u, hq4, ht, hu⟩ := Q3.out.of hq
            have Q4 := Lib.hid hq4
            have L4 := Lib.hid (L3.out.turned ht hu)
            obtain ⟨g', o', e', ch⟩ := L4.out.head
            simp only [Option.some.injEq, Addr.mk.injEq, and_true] at e'
            obtain ⟨rfl, rfl⟩ := e'
            have hxx : (x != x) = false := by simp
            have HLL : Hid (l.length ≤ k + 1) := by have := HLK.out; rw [List.length_cons] at this; show _ ≤ _; omega
            clear hq hq4 ht hu P1 Q3 L3 k0 k1
            by_cases hc1 : c = 1
            · subst hc1
              obtain ⟨rfl, l5⟩ := L4.out.tail0
              obtain rfl : m' = 0 := EM2.out
              have L5 := Lib.hid l5
              clear l5
              go_wp2_with fail
              go_meet
              exact ⟨u, _, 0, [], rfl, by simp, Q4.out, L5.out⟩
            · have hc2 : ¬ c - 1 = 0 := by omega
              have hc3 : 1 ≤ c := by omega
              have L5 := Lib.hid (L4.out.tail hc1)
              go_wp2_with fail
              go_meet
              exact ⟨u, _, c - 1, l, by rw [← EM2.out]; try rfl, HLL.out, Q4.out, L5.out⟩
        · have hk2b : (kind == 2) = false := beq_eq_false_iff_ne.2 hk2
          by_cases hk3 : kind = 3
          · subst hk3
            have P1 := ref23_drop q c L (by rw [← EM.out]; omega) L3.out.cap val W3 L3.out.ints
            rw [← EM.out] at P1
            have P2 := Lib.hid P1
            clear P1 hk2
            go_wp2_with fail
            refine P2.out.mono ?_
            intro e w4 hd
            rcases hd with ⟨hno, he, hb4⟩ | ⟨hyes, u, he, ho, hb4⟩
            · subst he
              rw [← EM.out]
              have Q4 := Lib.hid (Q3.out.call hb4)
              have L4 := Lib.hid (L3.out.call hb4)
              have k4 : w4.cell? ⟨Z, 1, none⟩ = some (.int .i64 val) := (hb4.cell (p := ⟨Z, 1, none⟩) (lt_of_heap KX.out)).trans k1
              have P3 := fifoI_drop Q4.out.q (by rw [← EM.out]; omega) Q4.out.below.size val
              rw [decide_eq_false hno, show Fi.drop L val = L by rcases Fi.place_cases L val with ⟨_, _, _, h⟩ | ⟨_, _, h, _⟩; exact absurd h hno; exact h] at P3
              have P4 := Lib.hid P3
              clear P3 hno hb4 P2 Q3 L3 k0 k1
              go_wp2_with fail
              (with_reducible refine P4.out.mono ?_)
              rintro e w5 ⟨rfl, hq⟩
              obtain ⟨u, hq4, ht, hu⟩ := Q4.out.of hq
              have Q5 := Lib.hid hq4
              have L5 := Lib.hid (L4.out.turned ht hu)
              clear hq hq4 ht hu P4 Q4 L4 k4
              go_wp2_with fail
              go_meet
              exact ⟨u, q, c, L, by rw [← EM.out], Nat.le_succ_of_le HLK.out, Q5.out, L5.out⟩
            · subst he
              have Q4 := Lib.hid (Q3.out.call hb4)
              obtain ⟨q4, c4, rfl, l4⟩ := Fl.new Q3.out ho (Nat.le_refl _)
              have L4 := Lib.hid l4
              have k4 : w4.cell? ⟨Z, 1, none⟩ = some (.int .i64 val) := (hb4.cell (p := ⟨Z, 1, none⟩) (lt_of_heap KX.out)).trans k1
              have P3 := fifoI_drop Q4.out.q (by rw [← EM.out]; omega) Q4.out.below.size val
              rw [decide_eq_true hyes] at P3
              have hdl : (Fi.drop L val).length ≤ k + 1 := by
                have := HLK.out
                rcases Fi.place_cases L val with ⟨h1, _, h, _⟩ | ⟨_, _, h, _⟩
                · rw [h, List.length_append, List.length_take, List.length_drop]; omega
                · rw [h]; omega
              have HDL := Lib.hid hdl
              obtain ⟨D, eD⟩ : ∃ D, D = Fi.drop L val := ⟨_, rfl⟩
              rw [← eD] at P3 L4 HDL
              have P4 := Lib.hid P3
              obtain ⟨nd, end'⟩ : ∃ nd, nd = D.length := ⟨_, rfl⟩
              have EDL := Lib.hid end'
              have ED := Lib.hid eD
              clear P3 hyes hb4 P2 Q3 L3 k0 k1 ho l4 hdl end'
              rw [← eD, ← EDL.out]
              clear eD
              go_wp2_with fail
              (with_reducible refine P4.out.mono ?_)
              rintro e w5 ⟨rfl, hq⟩
              obtain ⟨u, hq4, ht, hu⟩ := Q4.out.of hq
              have Q5 := Lib.hid hq4
              have L5 := Lib.hid (L4.out.turned ht hu)
              clear hq hq4 ht hu P4 Q4 L4 k4
              go_wp2_with fail
              go_meet
              exact ⟨u, q4, c4, D, by rw [← EDL.out], HDL.out, Q5.out, L5.out⟩
          · have hk3b : (kind == 3) = false := beq_eq_false_iff_ne.2 hk3
            have P1 := Lib.hid (fifoI_put Q3.out.q (by rw [← EM.out]; omega) Q3.out.below.size val)
            have hsw : W3.heap.size = Z + 1 ∨ Z < W3.heap.size := .inr (lt_of_heap KX.out)
            clear hk2 hk3
            go_wp2_with fail
            (with_reducible refine P1.out.mono ?_)
            rintro e w4 ⟨rfl, hq⟩
            obtain ⟨u, hq4, ht, hu⟩ := Q3.out.of hq
            have Q4 := Lib.hid hq4
            have L4 := Lib.hid (L3.out.turned ht hu)
            have K4 := Lib.hid ((ht.block Z (lt_of_heap KX.out) (fun h => by have := SX.out Z h; omega)).trans KX.out)
            have LEN := Lib.hid (show (L ++ [val]).length = m + 1 by rw [List.length_append, EM.out]; rfl)
            clear hq hq4 ht hu P1 Q3 L3 k0 k1 hsw
            go_wp2_with fail
            obtain ⟨B, eB⟩ : ∃ B, B = w4.heap.size := ⟨_, rfl⟩
            have hst := stab_below (B := B) (w0 := w4) (Nat.le_of_eq eB)
            have KB : Hid (∀ wd, Below B w4 wd → wd.heap[Z]? = some (.cells #[.int .i64 kind, .int .i64 val] 81 (0, 0))) := fun wd h => (h.block Z (by rw [eB]; exact lt_of_heap K4.out)).trans K4.out
            have LB : Hid (∀ wd, Below B w4 wd → Ints .i64 wd q L) := fun wd h => Sl.below L4.out.ints (eB ▸ h)
            have EB := Lib.hid eB
            have NQ := Lib.hid L4.out.void
            have mx1 : m ≤ maxLen := by unfold maxLen; omega
            have mx2 : m + 1 ≤ maxLen := by unfold maxLen; omega
            have by1 : m * 8 ≤ 140737488355328 := by omega
            have by2 : (m + 1) * 8 ≤ 140737488355328 := by omega
            have hlv : (intVals L).length = m * 1 := by rw [intVals_len, EM.out]; omega
            have HLV := Lib.hid hlv
            have NW : Hid (∀ wd, Ints .i64 wd q L → ∀ ad, q = some ad → ∀ j u, (intVals L)[j]? = some u → wd.cell? (ad.add j) = some u) := fun wd h => Ints.news h
            clear hlv eB
            refine wp_region_E mixed [6] hst (by rw [EB.out]; exact below_drew (Below.refl _ _)) ?_
            refine wpAnyE_take 1 rfl (by kernel_rfl) (by kernel_rfl) (by kernel_rfl) (fun _ _ _ h => h) hst (EffB.pure rfl (fun _ => rfl)) (.inr (EffB.pure rfl (fun _ => rfl))) ?_
            simp only [act_norm]
            refine wpAnyE_take 3 (v := .pointer (some ⟨Z, 1, none⟩)) rfl (by kernel_rfl) (by kernel_rfl) (by kernel_rfl) (fun _ _ _ h => h) hst (EffB.run rfl rfl (fun wd hS => ?_)) (.inr (EffB.run rfl rfl (fun wd hS => ?_))) ?_
            · (go_wp2; exact ⟨rfl, Below.refl _ _⟩)
            · (go_wp2; exact ⟨rfl, Below.refl _ _⟩)
            simp only [act_norm]
            refine wpAnyE_take 4 (v := .int .i64 val) rfl (by kernel_rfl) (by kernel_rfl) (by kernel_rfl) (fun _ _ _ h => h) hst (EffB.run rfl rfl (fun wd hS => ?_)) (.inl (by kernel_rfl)) ?_
            · (have c2 : wd.cell? ⟨Z, 1, none⟩ = some (.int .i64 val) := by rw [cell_of_row _ _ _ _ _ _ (KB.out _ hS)]; rfl); go_wp2; exact ⟨rfl, Below.refl _ _⟩
            simp only [act_norm]
            refine wpAnyE_two 0 5 rfl rfl (by kernel_rfl) rfl rfl (fun wd hS => ?_) (fun wd hS => ?_)
            · have hst0 := stab_and hst (stab_owns (B := B) (sz := 1) (v := .slice (some ⟨wd.heap.size, 0, none⟩) 0 0) (n := 0) (xs := []))
              have Y1 := Lib.hid (And.intro (hst _ _ hS (below1 wd (.cells #[] 3))) (owns_alloc wd #[] 3 (B := B) (sz := 1) (n := 0) (by have h1 := (hS).size; have h2 := EB.out; omega) rfl))
              clear hS
              go_wp2
              refine ⟨_, Y1.out, hst0, (by first | exact fun _ h => h.1 | exact .inr fun _ h => h.1), ?_⟩
              obtain ⟨X, hX⟩ : ∃ X, wd.heap.size = X := ⟨_, rfl⟩
              rw [hX] at hst0 ⊢
              clear Y1 hst hX
              try simp only [act_norm]
              have hst := hst0
              clear hst0
              refine wpAnyE_two 2 5 rfl rfl (by kernel_rfl) rfl rfl (fun wd hS => ?_) (fun wd hS => ?_)
              · refine wp_append_ex _ _ 77 77 rfl (.slice (some ⟨X, 0, none⟩) 0 0) (.slice q m c) rfl rfl (fun v' w' => Owns w' B 1 v' m (intVals L) ∧ Below wd.heap.size wd w') (fun ty => run_append_empty wd B X 77 ty 3 (.int .i64 0) 1 8 Try.underlying77 fifoI_info rfl (by decide) ((hS.2).lt X rfl).1 ((hS.2).lt X rfl).2 q m c (intVals L) HLV.out (fun h => by have := NQ.out h; rw [← EM.out] at this; exact this) (NW.out wd (LB.out wd hS.1)) (intVals_one2 L) mx1 by1) ?_
                rintro v2 w5 ⟨ho5, hb5⟩
                have hst0 := stab_and hst (stab_owns (B := B) (sz := 1) (v := v2) (n := m) (xs := intVals L))
                have Y1 := Lib.hid (And.intro (hst _ _ hS hb5) ho5)
                clear hS ho5 hb5
                refine ⟨_, Y1.out, hst0, (by first | exact fun _ h => h.1 | exact .inr fun _ h => h.1), ?_⟩
                clear Y1 hst
                try simp only [act_norm]
                have hst := hst0
                clear hst0
                refine wpAnyE_one 5 rfl (by kernel_rfl) rfl (fun wd hS => ?_)
                have hst0 := stab_and hst (stab_heap wd.heap.size (.cells #[.int .i64 val] 3 (0, 0)))
                have Y1 := Lib.hid (And.intro (hst _ _ hS (below1 wd (.cells #[.int .i64 val] 3))) (heap_alloc_at wd (.cells #[.int .i64 val] 3) wd.heap.size rfl))
                clear hS
                go_wp2
                refine ⟨_, Y1.out, hst0, (by first | exact fun _ h => h.1 | exact .inr fun _ h => h.1), ?_⟩
                obtain ⟨Y, hX⟩ : ∃ X, wd.heap.size = X := ⟨_, rfl⟩
                rw [hX] at hst0 ⊢
                clear Y1 hst hX
                try simp only [act_norm]
                have hst := hst0
                clear hst0
                refine wpAnyE_one 6 rfl (by kernel_rfl) rfl (fun wd hS => ?_)
                have hadd : ∀ j u, ([Value.int .i64 val] : List Value)[j]? = some u → wd.cell? ((⟨Y, 0, none⟩ : Addr).add j) = some u := fun j u hu => by
                  have hj : j = 0 := by have := (List.getElem?_eq_some_iff.1 hu).1; simp at this; exact this
                  subst hj
                  rw [Addr.add_mid, Nat.add_zero, cell_of_row _ _ _ _ _ _ (hS.2)]
                  exact hu
                refine wp_append_ex _ _ 77 77 rfl v2 (.slice (some ⟨Y, 0, none⟩) 1 1) rfl rfl (fun v' w' => Owns w' B 1 v' (m + 1) (intVals L ++ [.int .i64 val]) ∧ Below B w4 w') (fun ty => by
                  obtain ⟨i0, hi0, hz0, hzs, hzb⟩ := info_parts fifoI_info
                  obtain ⟨v', w', h1, h2, h3, _⟩ := run_append_any2 (P := Try.prog) wd B 77 ty 3 i0 (.int .i64 0) 1 8 Try.underlying77 hi0 hz0 hzs hzb rfl (by decide) v2 m (intVals L) (hS.1.2) (some ⟨Y, 0, none⟩) 1 1 [.int .i64 val] rfl (fun h => by cases h) (fun ad had => by obtain rfl : ad = ⟨Y, 0, none⟩ := (by simpa using had.symm); exact hadd) (by intro u hu; simp at hu; subst hu; rfl) mx2 by2 (by have h1 := (hS.1.1.1).size; have h2 := EB.out; omega)
                  exact ⟨v', w', h1, h2, (hS.1.1.1).grown h3 (by have h1 := (hS.1.1.1).size; have h2 := EB.out; omega) (fun y hy => ((hS.1.2).lt y hy).1)⟩) ?_
                rintro v3 w6 ⟨ho6, hb6⟩
                have Y1 := Lib.hid (And.intro hb6 ho6)
                clear hS ho6 hb6 hst hadd
                refine ⟨fun w' => Below B w4 w' ∧ Owns w' B 1 v3 (m + 1) (intVals L ++ [.int .i64 val]), Y1.out, stab_and (stab_below (Nat.le_of_eq EB.out)) stab_owns, (by first | exact .inl (by decide) | exact fun _ h => h.1 | skip), ?_⟩
                clear Y1
                try simp only [act_norm]
                have hst := stab_and (stab_below (B := B) (w0 := w4) (Nat.le_of_eq EB.out)) (stab_owns (B := B) (sz := 1) (v := v3) (n := m + 1) (xs := intVals L ++ [.int .i64 val]))
                refine wpAnyE_take 7 rfl (by kernel_rfl) (by kernel_rfl) (by kernel_rfl) (fun _ _ _ h => h) hst (EffB.pure rfl (fun _ => rfl)) (.inr (EffB.pure rfl (fun _ => rfl))) ?_
                simp only [act_norm]
                refine wpAnyE_done (by kernel_rfl) (fun wd hS => ?_) _
                have hbz : Below w4.heap.size w4 wd := EB.out ▸ hS.1
                have Q6 := Lib.hid (Q4.out.call hbz)
                have ho6 := hS.2
                rw [← LEN.out, show intVals L ++ [Value.int .i64 val] = intVals (L ++ [val]) by simp [intVals]] at ho6
                obtain ⟨q6, c6, e6, l6⟩ := Fl.new Q4.out ho6 (Nat.le_of_eq EB.out.symm)
                have L6 := Lib.hid l6
                have E6 := Lib.hid e6
                clear hS ho6 l6 hbz e6
                go_wp2_with fail
                go_meet
                refine ⟨u, q6, c6, L ++ [val], ?_, ?_, Q6.out, L6.out⟩
                · first | exact E6.out | rfl
                · rw [List.length_append]; have := HLK.out; simp; omega
              · have hst0 := stab_and hst (stab_heap wd.heap.size (.cells #[.int .i64 val] 3 (0, 0)))
                have Y1 := Lib.hid (And.intro (hst _ _ hS (below1 wd (.cells #[.int .i64 val] 3))) (heap_alloc_at wd (.cells #[.int .i64 val] 3) wd.heap.size rfl))
                clear hS
                go_wp2
                refine ⟨_, Y1.out, hst0, (by first | exact fun _ h => h.1 | exact .inr fun _ h => h.1), ?_⟩
                obtain ⟨Y, hX⟩ : ∃ X, wd.heap.size = X := ⟨_, rfl⟩
                rw [hX] at hst0 ⊢
                clear Y1 hst hX
                try simp only [act_norm]
                have hst := hst0
                clear hst0
                refine wpAnyE_one 2 rfl (by kernel_rfl) rfl (fun wd hS => ?_)
                refine wp_append_ex _ _ 77 77 rfl (.slice (some ⟨X, 0, none⟩) 0 0) (.slice q m c) rfl rfl (fun v' w' => Owns w' B 1 v' m (intVals L) ∧ Below wd.heap.size wd w') (fun ty => run_append_empty wd B X 77 ty 3 (.int .i64 0) 1 8 Try.underlying77 fifoI_info rfl (by decide) ((hS.1.2).lt X rfl).1 ((hS.1.2).lt X rfl).2 q m c (intVals L) HLV.out (fun h => by have := NQ.out h; rw [← EM.out] at this; exact this) (NW.out wd (LB.out wd hS.1.1)) (intVals_one2 L) mx1 by1) ?_
                rintro v2 w5 ⟨ho5, hb5⟩
                have hst0 := stab_and hst (stab_owns (B := B) (sz := 1) (v := v2) (n := m) (xs := intVals L))
                have Y1 := Lib.hid (And.intro (hst _ _ hS hb5) ho5)
                clear hS ho5 hb5
                refine ⟨_, Y1.out, hst0, (by first | exact fun _ h => h.1 | exact .inr fun _ h => h.1), ?_⟩
                clear Y1 hst
                try simp only [act_norm]
                have hst := hst0
                clear hst0
                refine wpAnyE_one 6 rfl (by kernel_rfl) rfl (fun wd hS => ?_)
                have hadd : ∀ j u, ([Value.int .i64 val] : List Value)[j]? = some u → wd.cell? ((⟨Y, 0, none⟩ : Addr).add j) = some u := fun j u hu => by
                  have hj : j = 0 := by have := (List.getElem?_eq_some_iff.1 hu).1; simp at this; exact this
                  subst hj
                  rw [Addr.add_mid, Nat.add_zero, cell_of_row _ _ _ _ _ _ (hS.1.2)]
                  exact hu
                refine wp_append_ex _ _ 77 77 rfl v2 (.slice (some ⟨Y, 0, none⟩) 1 1) rfl rfl (fun v' w' => Owns w' B 1 v' (m + 1) (intVals L ++ [.int .i64 val]) ∧ Below B w4 w') (fun ty => by
                  obtain ⟨i0, hi0, hz0, hzs, hzb⟩ := info_parts fifoI_info
                  obtain ⟨v', w', h1, h2, h3, _⟩ := run_append_any2 (P := Try.prog) wd B 77 ty 3 i0 (.int .i64 0) 1 8 Try.underlying77 hi0 hz0 hzs hzb rfl (by decide) v2 m (intVals L) (hS.2) (some ⟨Y, 0, none⟩) 1 1 [.int .i64 val] rfl (fun h => by cases h) (fun ad had => by obtain rfl : ad = ⟨Y, 0, none⟩ := (by simpa using had.symm); exact hadd) (by intro u hu; simp at hu; subst hu; rfl) mx2 by2 (by have h1 := (hS.1.1.1).size; have h2 := EB.out; omega)
                  exact ⟨v', w', h1, h2, (hS.1.1.1).grown h3 (by have h1 := (hS.1.1.1).size; have h2 := EB.out; omega) (fun y hy => ((hS.2).lt y hy).1)⟩) ?_
                rintro v3 w6 ⟨ho6, hb6⟩
                have Y1 := Lib.hid (And.intro hb6 ho6)
                clear hS ho6 hb6 hst hadd
                refine ⟨fun w' => Below B w4 w' ∧ Owns w' B 1 v3 (m + 1) (intVals L ++ [.int .i64 val]), Y1.out, stab_and (stab_below (Nat.le_of_eq EB.out)) stab_owns, (by first | exact .inl (by decide) | exact fun _ h => h.1 | skip), ?_⟩
                clear Y1
                try simp only [act_norm]
                have hst := stab_and (stab_below (B := B) (w0 := w4) (Nat.le_of_eq EB.out)) (stab_owns (B := B) (sz := 1) (v := v3) (n := m + 1) (xs := intVals L ++ [.int .i64 val]))
                refine wpAnyE_take 7 rfl (by kernel_rfl) (by kernel_rfl) (by kernel_rfl) (fun _ _ _ h => h) hst (EffB.pure rfl (fun _ => rfl)) (.inr (EffB.pure rfl (fun _ => rfl))) ?_
                simp only [act_norm]
                refine wpAnyE_done (by kernel_rfl) (fun wd hS => ?_) _
                have hbz : Below w4.heap.size w4 wd := EB.out ▸ hS.1
                have Q6 := Lib.hid (Q4.out.call hbz)
                have ho6 := hS.2
                rw [← LEN.out, show intVals L ++ [Value.int .i64 val] = intVals (L ++ [val]) by simp [intVals]] at ho6
                obtain ⟨q6, c6, e6, l6⟩ := Fl.new Q4.out ho6 (Nat.le_of_eq EB.out.symm)
                have L6 := Lib.hid l6
                have E6 := Lib.hid e6
                clear hS ho6 l6 hbz e6
                go_wp2_with fail
                go_meet
                refine ⟨u, q6, c6, L ++ [val], ?_, ?_, Q6.out, L6.out⟩
                · first | exact E6.out | rfl
                · rw [List.length_append]; have := HLK.out; simp; omega
            · have hst0 := stab_and hst (stab_heap wd.heap.size (.cells #[.int .i64 val] 3 (0, 0)))
              have Y1 := Lib.hid (And.intro (hst _ _ hS (below1 wd (.cells #[.int .i64 val] 3))) (heap_alloc_at wd (.cells #[.int .i64 val] 3) wd.heap.size rfl))
              clear hS
              go_wp2
              refine ⟨_, Y1.out, hst0, (by first | exact fun _ h => h.1 | exact .inr fun _ h => h.1), ?_⟩
              obtain ⟨Y, hX⟩ : ∃ X, wd.heap.size = X := ⟨_, rfl⟩
              rw [hX] at hst0 ⊢
              clear Y1 hst hX
              try simp only [act_norm]
              have hst := hst0
              clear hst0
              refine wpAnyE_one 0 rfl (by kernel_rfl) rfl (fun wd hS => ?_)
              have hst0 := stab_and hst (stab_owns (B := B) (sz := 1) (v := .slice (some ⟨wd.heap.size, 0, none⟩) 0 0) (n := 0) (xs := []))
              have Y1 := Lib.hid (And.intro (hst _ _ hS (below1 wd (.cells #[] 3))) (owns_alloc wd #[] 3 (B := B) (sz := 1) (n := 0) (by have h1 := (hS.1).size; have h2 := EB.out; omega) rfl))
              clear hS
              go_wp2
              refine ⟨_, Y1.out, hst0, (by first | exact fun _ h => h.1 | exact .inr fun _ h => h.1), ?_⟩
              obtain ⟨X, hX⟩ : ∃ X, wd.heap.size = X := ⟨_, rfl⟩
              rw [hX] at hst0 ⊢
              clear Y1 hst hX
              try simp only [act_norm]
              have hst := hst0
              clear hst0
              refine wpAnyE_one 2 rfl (by kernel_rfl) rfl (fun wd hS => ?_)
              refine wp_append_ex _ _ 77 77 rfl (.slice (some ⟨X, 0, none⟩) 0 0) (.slice q m c) rfl rfl (fun v' w' => Owns w' B 1 v' m (intVals L) ∧ Below wd.heap.size wd w') (fun ty => run_append_empty wd B X 77 ty 3 (.int .i64 0) 1 8 Try.underlying77 fifoI_info rfl (by decide) ((hS.2).lt X rfl).1 ((hS.2).lt X rfl).2 q m c (intVals L) HLV.out (fun h => by have := NQ.out h; rw [← EM.out] at this; exact this) (NW.out wd (LB.out wd hS.1.1)) (intVals_one2 L) mx1 by1) ?_
              rintro v2 w5 ⟨ho5, hb5⟩
              have hst0 := stab_and hst (stab_owns (B := B) (sz := 1) (v := v2) (n := m) (xs := intVals L))
              have Y1 := Lib.hid (And.intro (hst _ _ hS hb5) ho5)
              clear hS ho5 hb5
              refine ⟨_, Y1.out, hst0, (by first | exact fun _ h => h.1 | exact .inr fun _ h => h.1), ?_⟩
              clear Y1 hst
              try simp only [act_norm]
              have hst := hst0
              clear hst0
              refine wpAnyE_one 6 rfl (by kernel_rfl) rfl (fun wd hS => ?_)
              have hadd : ∀ j u, ([Value.int .i64 val] : List Value)[j]? = some u → wd.cell? ((⟨Y, 0, none⟩ : Addr).add j) = some u := fun j u hu => by
                have hj : j = 0 := by have := (List.getElem?_eq_some_iff.1 hu).1; simp at this; exact this
                subst hj
                rw [Addr.add_mid, Nat.add_zero, cell_of_row _ _ _ _ _ _ (hS.1.1.2)]
                exact hu
              refine wp_append_ex _ _ 77 77 rfl v2 (.slice (some ⟨Y, 0, none⟩) 1 1) rfl rfl (fun v' w' => Owns w' B 1 v' (m + 1) (intVals L ++ [.int .i64 val]) ∧ Below B w4 w') (fun ty => by
                obtain ⟨i0, hi0, hz0, hzs, hzb⟩ := info_parts fifoI_info
                obtain ⟨v', w', h1, h2, h3, _⟩ := run_append_any2 (P := Try.prog) wd B 77 ty 3 i0 (.int .i64 0) 1 8 Try.underlying77 hi0 hz0 hzs hzb rfl (by decide) v2 m (intVals L) (hS.2) (some ⟨Y, 0, none⟩) 1 1 [.int .i64 val] rfl (fun h => by cases h) (fun ad had => by obtain rfl : ad = ⟨Y, 0, none⟩ := (by simpa using had.symm); exact hadd) (by intro u hu; simp at hu; subst hu; rfl) mx2 by2 (by have h1 := (hS.1.1.1).size; have h2 := EB.out; omega)
                exact ⟨v', w', h1, h2, (hS.1.1.1).grown h3 (by have h1 := (hS.1.1.1).size; have h2 := EB.out; omega) (fun y hy => ((hS.2).lt y hy).1)⟩) ?_
              rintro v3 w6 ⟨ho6, hb6⟩
              have Y1 := Lib.hid (And.intro hb6 ho6)
              clear hS ho6 hb6 hst hadd
              refine ⟨fun w' => Below B w4 w' ∧ Owns w' B 1 v3 (m + 1) (intVals L ++ [.int .i64 val]), Y1.out, stab_and (stab_below (Nat.le_of_eq EB.out)) stab_owns, (by first | exact .inl (by decide) | exact fun _ h => h.1 | skip), ?_⟩
              clear Y1
              try simp only [act_norm]
              have hst := stab_and (stab_below (B := B) (w0 := w4) (Nat.le_of_eq EB.out)) (stab_owns (B := B) (sz := 1) (v := v3) (n := m + 1) (xs := intVals L ++ [.int .i64 val]))
              refine wpAnyE_take 7 rfl (by kernel_rfl) (by kernel_rfl) (by kernel_rfl) (fun _ _ _ h => h) hst (EffB.pure rfl (fun _ => rfl)) (.inr (EffB.pure rfl (fun _ => rfl))) ?_
              simp only [act_norm]
              refine wpAnyE_done (by kernel_rfl) (fun wd hS => ?_) _
              have hbz : Below w4.heap.size w4 wd := EB.out ▸ hS.1
              have Q6 := Lib.hid (Q4.out.call hbz)
              have ho6 := hS.2
              rw [← LEN.out, show intVals L ++ [Value.int .i64 val] = intVals (L ++ [val]) by simp [intVals]] at ho6
              obtain ⟨q6, c6, e6, l6⟩ := Fl.new Q4.out ho6 (Nat.le_of_eq EB.out.symm)
              have L6 := Lib.hid l6
              have E6 := Lib.hid e6
              clear hS ho6 l6 hbz e6
              go_wp2_with fail
              go_meet
              refine ⟨u, q6, c6, L ++ [val], ?_, ?_, Q6.out, L6.out⟩
              · first | exact E6.out | rfl
              · rw [List.length_append]; have := HLK.out; simp; omega
      case rest =>
        obtain ⟨v2, q2, c2, L2, rfl, hlen2, hq2, hl2⟩ := hcut
        have Q5 := Lib.hid hq2
        have L5 := Lib.hid hl2
        have HL2 := Lib.hid hlen2
        clear hq2 hl2 Q3 L3 KX k0 k1 SX EM hL80 HLK hlen2
        cases L2 with
        | nil =>
          have P1 := Lib.hid (fifoI_first_no Q5.out.q rfl)
          have P2 := Lib.hid (fifoI_len Q5.out.q)
          have P3 := Lib.hid (fifoI_list Q5.out.q (by simp))
          have P4 := Lib.hid (fun (p1 : Option Addr) (c1 : Nat) (W : World) (h1 : Ints .i64 W p1 []) (h2 : Ints .i64 W q2 []) => ref07_same p1 q2 c1 c2 [] [] W h1 h2 (by simp) (by simp))
          go_wp2_with (first | ((with_reducible refine P1.out.mono ?_); rintro e w6 ⟨rfl, rfl⟩) | ((with_reducible refine P2.out.mono ?_); rintro e w6 ⟨rfl, rfl⟩) | fail)
          (with_reducible refine P3.out.mono ?_)
          rintro e w7 ⟨u7, rfl, ho7, hb7⟩
          obtain ⟨p7, c7, rfl, _, h7⟩ := ints_of_owns ho7
          have Q7 := Lib.hid (Q5.out.call hb7)
          have L7 := Lib.hid (L5.out.call hb7)
          have P5 := P4.out p7 c7 _ h7 L7.out.ints
          simp only [decide_true, List.length_nil] at P5
          have P6 := Lib.hid P5
          clear ho7 hb7 h7 P5 P4 P3 P1 P2 Q5 L5
          go_wp2_with fail
          (with_reducible refine P6.out.mono ?_)
          rintro e w8 ⟨rfl, hb8⟩
          have Q8 := Lib.hid (Q7.out.call hb8)
          have L8 := Lib.hid (L7.out.call hb8)
          clear hb8 P6 Q7 L7
          go_wp2
          exact ⟨⟨k + 1, v2, q2, c2, [], HKN.out, by go_num, rfl, HL2.out, Q8.out, L8.out⟩, by have := HKM.out; simp [intOf]; omega⟩
        | cons x l =>
          have P1 := Lib.hid (fifoI_first Q5.out.q rfl)
          have hp2 := fifoI_len Q5.out.q
          have hl60 : (x :: l).length ≤ 4096 := by have := HL2.out; omega
          have P3 := fifoI_list Q5.out.q hl60
          have P4 := Lib.hid (fun (p1 : Option Addr) (c1 : Nat) (W : World) (h1 : Ints .i64 W p1 (x :: l)) (h2 : Ints .i64 W q2 (x :: l)) => ref07_same p1 q2 c1 c2 (x :: l) (x :: l) W h1 h2 (by omega) (by omega))
          obtain ⟨g, o, rfl, ch⟩ := L5.out.head
          obtain ⟨m', em'⟩ : ∃ m', m' = l.length := ⟨_, rfl⟩
          have hml : (x :: l).length = m' + 1 := by rw [List.length_cons, ← em']
          have EML := Lib.hid hml
          rw [hml] at hp2 hl60 P4 ⊢
          have P2 := Lib.hid hp2
          have P3' := Lib.hid P3
          have dm : (0 : Int) < ((m' + 1 : Nat) : Int) := by omega
          have hxx : (x != x) = false := by simp
          clear em' hml hp2 P3
          go_wp2_with (first | ((with_reducible refine P1.out.mono ?_); rintro e w6 ⟨rfl, rfl⟩) | ((with_reducible refine P2.out.mono ?_); rintro e w6 ⟨rfl, rfl⟩) | fail)
          (with_reducible refine P3'.out.mono ?_)
          rintro e w7 ⟨u7, rfl, ho7, hb7⟩
          obtain ⟨p7, c7, rfl, _, h7⟩ := ints_of_owns ho7
          rw [EML.out]
          have Q7 := Lib.hid (Q5.out.call hb7)
          have L7 := Lib.hid (L5.out.call hb7)
          have P5 := P4.out p7 c7 _ h7 L7.out.ints
          simp only [decide_true] at P5
          have P6 := Lib.hid P5
          clear ho7 hb7 h7 P5 P4 P3' P1 P2 Q5 L5 ch
          go_wp2_with fail
          (with_reducible refine P6.out.mono ?_)
          rintro e w8 ⟨rfl, hb8⟩
          have Q8 := Lib.hid (Q7.out.call hb8)
          have L8 := Lib.hid (L7.out.call hb8)
          clear hb8 P6 Q7 L7
          go_wp2
          exact ⟨⟨k + 1, v2, _, c2, x :: l, HKN.out, by go_num, by rw [EML.out], HL2.out, Q8.out, L8.out⟩, by have := HKM.out; simp [intOf]; omega⟩
    · obtain rfl : k = n := by omega
      have hp1 := fifoI_has hQ.q (by omega) z
      have hp2 := fun (W : World) (h : Ints .i64 W q L) => ref23_has q c L (by omega) z W h
      obtain ⟨r, er⟩ : ∃ r, r = decide (z ∈ L) := ⟨_, rfl⟩
      rw [← er] at hp1
      simp only [← er] at hp2
      obtain ⟨m, em⟩ : ∃ m, m = L.length := ⟨_, rfl⟩
      rw [← em] at hp2 ⊢
      have P1 := Lib.hid hp1
      have P2 := Lib.hid hp2
      have Q5 := Lib.hid hQ
      have L5 := Lib.hid hL
      clear hQ hL hp1 hp2 er em F1
      go_wp2_with fail
      (with_reducible refine P1.out.mono ?_)
      rintro e w7 ⟨rfl, hb7⟩
      have Q7 := Lib.hid (Q5.out.call hb7)
      have L7 := Lib.hid (L5.out.call hb7)
      clear hb7 Q5 L5 P1
      go_wp2_with fail
      (with_reducible refine (P2.out _ L7.out.ints).mono ?_)
      rintro e w8 ⟨rfl, hb8⟩
      have Q8 := Lib.hid (Q7.out.call hb8)
      clear hb8 Q7 L7 P2
      have hrr : (r == r) = true := by simp
      go_wp2
      go_ret
      exact ⟨by first | rfl | simp, Q8.out.below⟩
end Go.Proofs.Ytapgcbjlgekpeaa
