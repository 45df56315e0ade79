/- Layer 51: decisions that are made to fit: budget.Fit, walked. -/
import Derived.Test.YtcanbagnehdbiaaJBud6
import Derived.Test.YtcanbagnehdbiaaJLaws51
import Derived.Deep.MidRow
namespace Go.Proofs.Ytcanbagnehdbiaa
open Go.ChangeShapes Go.WideShapes Go.ChangeAt Go.RowKit

section
variable {P : Program} {o : Oper} {a : Act} {w : World} {K : Act → World → Prop} {Q : Exit → Act → World → Prop}
theorem wp_append_anyF (s x : Operand) (t : TypeId) (ho : o.op = .call { callee := .builtin .append, args := #[s, x], argTypes := #[t, t] })
    (B : Nat) (e : TypeId) (z : Value) (size bytes : Nat) (ht : P.underlying t = some (.slice e)) (hi : (P.info? e).map (fun i => (i.zero, i.size, i.bytes)) = some (some z, size, bytes)) (hzs : z.cells.size = size) (hsz : 0 < size)
    (v : Value) (n : Nat) (xs : List Value) (hs : a.eval s = v) (hown : Owns w B size v n xs)
    (ao : Option Addr) (m c : Nat) (news : List Value) (hx : a.eval x = .slice ao m c) (hl : news.length = m * size) (hnone : ao = none → m = 0 ∧ c = 0) (hnews : ∀ ad, ao = some ad → ∀ j u, news[j]? = some u → w.cell? (ad.add j) = some u) (h1 : ∀ u ∈ news, u.oneCell' = true)
    (h63 : n + m ≤ maxLen) (hbytes : (n + m) * bytes ≤ 140737488355328) (hB : B ≤ w.heap.size)
    (h : ∀ v' w', Owns w' B size v' (n + m) (xs ++ news) → w.grownBy w' v.ownBlock → (v'.ownBlock = v.ownBlock ∨ ∀ k, v'.ownBlock = some k → w.heap.size ≤ k) → K (a.put o.dst v') w') : o.wp P a w K Q := by
  obtain ⟨i, hi1, hi2, hi3, hi4⟩ := info_parts hi
  obtain ⟨v', w', hr, h2, h3, h4⟩ := run_append_any2 (P := P) w B t o.type e i z size bytes ht hi1 hi2 hi3 hi4 hzs hsz v n xs hown ao m c news hl hnone hnews h1 h63 hbytes hB
  unfold Oper.wp execOp
  simp only [ho, resolve, invoke, builtin, Sem.run_bind, Sem.run_pure, Result.andThen_ok, List.map_toArray, List.map_cons, List.map_nil, hs, hx, hr]
  exact h v' w' h2 h3 h4
end
theorem clone_advs (p : Option Addr) (n c : Nat) (l : List Adv) (hn : l.length = n) (hb : n ≤ 100000) (hp : p = none → n = 0 ∧ c = 0) (w : World) (hs : Advs w p l) :
    Calls Try.prog 75 #[.slice p n c] w fun e w' => ∃ u, e = .returned u ∧ Owns w' w.heap.size 5 u n (advVals l) ∧ Below w.heap.size w w' := by
  cases p with
  | none =>
    obtain ⟨rfl, rfl⟩ := hp rfl
    refine (cloneA_nil w).mono ?_
    rintro e w' ⟨rfl, rfl⟩
    have : l = [] := List.length_eq_zero_iff.1 hn
    subst this
    exact ⟨_, rfl, owns_nil _ _ _, Below.refl _ _⟩
  | some ad => exact cloneA_some ad n c l hn hb w hs
theorem stab_belowF {B : Nat} {w : World} (h : B ≤ w.heap.size) : Stab (fun w' => Below B w w') := stab_below (B := B) (w0 := w) h
set_option maxHeartbeats 4000000 in
set_option maxRecDepth 100000 in
theorem budget_fit (total : Int) (q : Option Addr) (c : Nat) (A : List Adv) (hA : ∀ a ∈ A, a.In) (hqn : q = none → A.length = 0 ∧ c = 0) (r : Option Addr) (d : Nat) (P : List (List Int)) (hb : A.length ≤ 20) (hPA : P.length = A.length) (hW : ∀ a ∈ Fit.wants A P A.length, a.In) (w : World) (hs : Advs w q A) (ht : Go.Proofs.Ytcanbagnehdbiaa.Rows .i64 6 w r P) :
    Calls Try.prog 29 #[.int .i64 total, .slice q A.length c, .slice r A.length d] w fun e w' => Below w.heap.size w w' ∧ (Bud.check total (Fit.wants A P A.length) ≠ 0 → e = .returned (.tuple #[.slice none 0 0, .int .i64 (Bud.check total (Fit.wants A P A.length))])) ∧ (Bud.check total (Fit.wants A P A.length) = 0 → ∃ u, e = .returned (.tuple #[u, .int .i64 0]) ∧ Owns w' w.heap.size 5 u A.length (Fit.part (Bud.share total (Fit.wants A P A.length)) A A.length)) := by
  have HWN := Lib.hid (fun k => show Fit.wants A P (k + 1) = Fit.wants A P k ++ [Fit.want A P k] from rfl)
  have HW0 : Hid (Fit.wants A P 0 = []) := rfl
  have HWL := Lib.hid (Fit.wants_len A P)
  have HWT := Lib.hid (fun k => show Fit.want A P k = ⟨min (Fit.mn P k) (Fit.rp A k), Fit.rp A k⟩ from rfl)
  obtain ⟨f, ef⟩ : ∃ f, f = Fit.wants A P := ⟨_, rfl⟩
  rw [← ef] at HWN HW0 HWL hW ⊢
  have HS := Lib.hid hs
  have HT := Lib.hid ht
  have HWI := Lib.hid hW
  have HQN := Lib.hid hqn
  have HIN := Lib.hid hA
  obtain ⟨n, en⟩ : ∃ n, n = A.length := ⟨_, rfl⟩
  have EN := Lib.hid en
  have EP : Hid (P.length = n) := hPA.trans en.symm
  rw [← en] at hb HWI HQN ⊢
  obtain ⟨S, eS⟩ : ∃ S, S = Bud.share total (f n) := ⟨_, rfl⟩
  obtain ⟨cd, ecd⟩ : ∃ S, S = Bud.check total (f n) := ⟨_, rfl⟩
  rw [← eS, ← ecd]
  have ES := Lib.hid eS
  have ECD := Lib.hid ecd
  clear hs ht hW hqn ef en hPA hA eS ecd
  go_enter Try.func29, Try.ntmps29
  go_wp2
  go_loopw [8, 22] (fun o i wr => ∃ k : Nat, k ≤ n ∧ i = .int .i64 (k : Nat) ∧ Owns wr w.heap.size 2 o k (sampVals (f k)) ∧ Below w.heap.size w wr) (fun _ i _ => n - (intOf i).toNat)
  case atStart => exact ⟨0, by omega, rfl, by rw [HW0.out]; exact owns_nil _ _ _, Below.refl _ _⟩
  case round =>
    obtain ⟨k, hk, rfl, hO, hB⟩ := hrel
    by_cases hlt : k < n
    · have hkl : k < A.length := by have := EN.out; omega
      obtain ⟨bq, off, rfl, hbw, _⟩ := HS.out.cells k hkl
      obtain ⟨c0, c1, c2, c3, c4⟩ := Fit.adv_cells HS.out k hkl wr hB
      obtain ⟨bp, offp, hr1, _, _⟩ := Sl.pos HT.out (by have := EP.out; omega)
      subst hr1
      have hpc := Fit.pol_cell HT.out k (by have := EP.out; omega)
      have hwn := HWN.out k
      rw [HWT.out k] at hwn
      obtain ⟨mn, emn⟩ : ∃ m, m = Fit.mn P k := ⟨_, rfl⟩
      rw [← emn] at hwn hpc
      have hrp : Fit.rp A k = (A[k]?.getD default).repl := rfl
      rw [hrp] at hwn
      obtain ⟨⟨a0, a1, a2, a3, a4⟩, ea⟩ : ∃ a, a = A[k]?.getD default := ⟨_, rfl⟩
      rw [← ea] at c0 c1 c2 c3 c4 hwn
      simp only at c0 c1 c2 c3 c4 hwn
      have HPC := Lib.hid hpc
      obtain ⟨xs, exs⟩ : ∃ s, s = f k := ⟨_, rfl⟩
      rw [← exs] at hwn hO
      have HWN2 := Lib.hid hwn
      have hal := below1 wr (.cells #[.int .i64 a0, .int .i64 a1, .int .i64 a2, .int .i64 a3, .int .i64 a4] 56)
      have M0 := Lib.hid (((Mem.start w).call hB).alloc (.cells #[.int .i64 a0, .int .i64 a1, .int .i64 a2, .int .i64 a3, .int .i64 a4] 56))
      have O0 := Lib.hid (hO.below hal)
      have hkn : (k : Int) < n := by omega
      have hk0 : (0 : Int) ≤ k := by omega
      clear hO hB ea exs hwn hpc hrp emn hkl hal
      go_wp2_with fail
      have hst := stab_and (stab_mem (w := w) (bs := [(wr.heap.size, .cells #[.int .i64 a0, .int .i64 a1, .int .i64 a2, .int .i64 a3, .int .i64 a4] 56)])) (stab_owns (B := w.heap.size) (sz := 2) (v := u8) (n := k) (xs := sampVals xs))
      refine wp_region_E mixed [13] hst ⟨M0.out.drewN 1, O0.out.below (below_drew (Below.refl _ _))⟩ ?_
      clear c0 c1 c2 c3 c4
      obtain ⟨X, hX⟩ : ∃ X, wr.heap.size = X := ⟨_, rfl⟩
      rw [hX] at hst ⊢
      clear hX M0 O0
      refine wpAnyE_take 0 rfl (by kernel_rfl) (by kernel_rfl) (by kernel_rfl) (fun _ _ _ h => h) hst (EffB.pure rfl (fun _ => rfl)) (.inr (EffB.pure rfl (fun _ => rfl))) ?_
      simp only [act_norm]
      refine wpAnyE_take 1 rfl (by kernel_rfl) (by kernel_rfl) (by kernel_rfl) (fun _ _ _ h => h) hst (EffB.pure rfl (fun _ => rfl)) (.inr (EffB.pure rfl (fun _ => rfl))) ?_
      simp only [act_norm]
      refine wpAnyE_take 2 rfl (by kernel_rfl) (by kernel_rfl) (by kernel_rfl) (fun _ _ _ h => h) hst (EffB.pure rfl (fun _ => rfl)) (.inr (EffB.pure rfl (fun _ => rfl))) ?_
      simp only [act_norm]
      refine wpAnyE_take 3 (v := .pointer (some ⟨bp, offp + k * 6, none⟩)) rfl (by kernel_rfl) (by kernel_rfl) (by kernel_rfl) (fun _ _ _ h => h) hst (EffB.run rfl rfl (fun wd hS => ?_)) (.inr (EffB.run rfl rfl (fun wd hS => ?_))) ?_
      · (go_wp2; exact ⟨rfl, Below.refl _ _⟩)
      · (go_wp2; exact ⟨rfl, Below.refl _ _⟩)
      simp only [act_norm]
      refine wpAnyE_take 4 (v := .pointer (some ⟨bp, offp + k * 6, none⟩)) rfl (by kernel_rfl) (by kernel_rfl) (by kernel_rfl) (fun _ _ _ h => h) hst (EffB.run rfl rfl (fun wd hS => ?_)) (.inr (EffB.run rfl rfl (fun wd hS => ?_))) ?_
      · (go_wp2; exact ⟨rfl, Below.refl _ _⟩)
      · (go_wp2; exact ⟨rfl, Below.refl _ _⟩)
      simp only [act_norm]
      refine wpAnyE_take 5 (v := .int .i64 mn) rfl (by kernel_rfl) (by kernel_rfl) (by kernel_rfl) (fun _ _ _ h => h) hst (EffB.run rfl rfl (fun wd hS => ?_)) (.inl (by kernel_rfl)) ?_
      · have c9 := HPC.out wd hS.1.below; go_wp2; exact ⟨rfl, Below.refl _ _⟩
      simp only [act_norm]
      refine wpAnyE_take 6 (v := .pointer (some ⟨X, 3, none⟩)) rfl (by kernel_rfl) (by kernel_rfl) (by kernel_rfl) (fun _ _ _ h => h) hst (EffB.run rfl rfl (fun wd hS => ?_)) (.inr (EffB.run rfl rfl (fun wd hS => ?_))) ?_
      · (go_wp2; exact ⟨rfl, Below.refl _ _⟩)
      · (go_wp2; exact ⟨rfl, Below.refl _ _⟩)
      simp only [act_norm]
      refine wpAnyE_take 7 (v := .int .i64 a3) rfl (by kernel_rfl) (by kernel_rfl) (by kernel_rfl) (fun _ _ _ h => h) hst (EffB.run rfl rfl (fun wd hS => ?_)) (.inl (by kernel_rfl)) ?_
      · (have c2 : wd.cell? ⟨X, 3, none⟩ = some (.int .i64 a3) := by rw [cell_of_row _ _ _ _ _ _ (hS.1.heap 0 rfl)]; rfl); go_wp2; exact ⟨rfl, Below.refl _ _⟩
      simp only [act_norm]
      refine wpAnyE_take 8 (v := .int .i64 (min mn a3)) rfl (by kernel_rfl) (by kernel_rfl) (by kernel_rfl) (fun _ _ _ h => h) hst (EffB.run rfl rfl (fun wd hS => ?_)) (.inl (by kernel_rfl)) ?_
      · (by_cases hlt : (a3) < (mn); (· (rw [show min (mn) (a3) = a3 by omega]; go_wp2; exact ⟨rfl, Below.refl _ _⟩)); (· (rw [show min (mn) (a3) = mn by omega]; have hge2 : ¬ (a3) < (mn) := hlt; go_wp2; exact ⟨rfl, Below.refl _ _⟩)))
      simp only [act_norm]
      refine wpAnyE_take 9 (v := .pointer (some ⟨X, 3, none⟩)) rfl (by kernel_rfl) (by kernel_rfl) (by kernel_rfl) (fun _ _ _ h => h) hst (EffB.run rfl rfl (fun wd hS => ?_)) (.inr (EffB.run rfl rfl (fun wd hS => ?_))) ?_
      · (go_wp2; exact ⟨rfl, Below.refl _ _⟩)
      · (go_wp2; exact ⟨rfl, Below.refl _ _⟩)
      simp only [act_norm]
      refine wpAnyE_take 10 (v := .int .i64 a3) rfl (by kernel_rfl) (by kernel_rfl) (by kernel_rfl) (fun _ _ _ h => h) hst (EffB.run rfl rfl (fun wd hS => ?_)) (.inl (by kernel_rfl)) ?_
      · (have c2 : wd.cell? ⟨X, 3, none⟩ = some (.int .i64 a3) := by rw [cell_of_row _ _ _ _ _ _ (hS.1.heap 0 rfl)]; rfl); go_wp2; exact ⟨rfl, Below.refl _ _⟩
      simp only [act_norm]
      obtain ⟨mv, emv⟩ : ∃ m, min mn a3 = m := ⟨_, rfl⟩
      rw [emv]
      rw [emv] at HWN2
      refine wpAnyE_take 11 (v := .agg #[.int .i64 mv, .int .i64 a3]) rfl (by kernel_rfl) (by kernel_rfl) (by kernel_rfl) (fun _ _ _ h => h) hst (EffB.run rfl rfl (fun wd hS => ?_)) (.inr (EffB.run rfl rfl (fun wd hS => ?_))) ?_
      · (go_wp2; exact ⟨rfl, Below.refl _ _⟩)
      · (go_wp2; exact ⟨rfl, Below.refl _ _⟩)
      simp only [act_norm]
      refine wpAnyE_one 12 rfl (by kernel_rfl) rfl (fun wd hS => ?_)
      have hstN := stab_and hst (stab_heap wd.heap.size (.cells #[.int .i64 mv, .int .i64 a3] 116 (0, 0)))
      have Y1 := Lib.hid (And.intro (hst _ _ hS (below1 wd (.cells #[.int .i64 mv, .int .i64 a3] 116))) (heap_alloc_at wd (.cells #[.int .i64 mv, .int .i64 a3] 116) wd.heap.size rfl))
      clear hS
      go_wp2
      refine ⟨_, Y1.out, hstN, (by first | exact fun _ h => h.1 | exact .inr fun _ h => h.1), ?_⟩
      obtain ⟨Z, hZ⟩ : ∃ Z, wd.heap.size = Z := ⟨_, rfl⟩
      rw [hZ] at hstN ⊢
      clear Y1 hst hZ
      try simp only [act_norm]
      have hst := hstN
      clear hstN
      refine wpAnyE_one 13 rfl (by kernel_rfl) rfl (fun wd hS => ?_)
      have cX : ∀ (j : Nat) (u : Value), [Value.int .i64 mv, Value.int .i64 a3][j]? = some u → wd.cell? ⟨Z, j, none⟩ = some u := fun j u hu => by
        rw [cell_of_row _ _ _ _ _ _ hS.2]
        simpa using hu
      refine wp_append_anyF _ _ 41 rfl w.heap.size 116 (.agg #[.int .i64 0, .int .i64 0]) 2 16 Try.underlying41 wantInfo rfl (by decide) u8 k (sampVals xs) rfl hS.1.2 (some ⟨Z, 0, none⟩) 1 1 [.int .i64 mv, .int .i64 a3] rfl rfl (by simp) (fun ad had j u hu => by cases had; rw [Addr.add_mid, Nat.zero_add]; exact cX j u hu) (by intro u h; simp at h; rcases h with rfl | rfl <;> rfl) (by unfold maxLen; omega) (by omega) hS.1.1.below.size (fun u1 wx ha1 hg1 hw1 => ?_)
      have hbx := hS.1.1.below.grown hg1 hS.1.1.below.size (fun k' hk' => (hS.1.2.lt k' hk').1)
      have hstN := stab_and (stab_owns (B := w.heap.size) (sz := 2) (v := u1) (n := k + 1) (xs := sampVals xs ++ [.int .i64 mv, .int .i64 a3])) (stab_belowF (B := w.heap.size) (w := w) (Nat.le_refl _))
      have Y2 := Lib.hid (And.intro ha1 hbx)
      clear hS cX ha1 hg1 hw1 hst hbx
      refine ⟨_, Y2.out, hstN, .inl (by decide), ?_⟩
      clear Y2
      try simp only [act_norm]
      have hst := hstN
      clear hstN
      refine wpAnyE_take 14 rfl (by kernel_rfl) (by kernel_rfl) (by kernel_rfl) (fun _ _ _ h => h) hst (EffB.pure rfl (fun _ => rfl)) (.inr (EffB.pure rfl (fun _ => rfl))) ?_
      simp only [act_norm]
      refine wpAnyE_done (by kernel_rfl) (fun wd hS => ?_) _
      have HF := Lib.hid hS
      clear hS hst
      go_wp2
      exact ⟨⟨k + 1, by omega, by go_num, by rw [HWN2.out, sampVals_append]; exact HF.out.1, HF.out.2⟩, by simp [intOf]; omega⟩
    · obtain rfl : k = n := by omega
      have hlen := HWL.out k
      have ho2 := hO
      rw [show k = (f k).length from hlen.symm] at ho2
      obtain ⟨qw, cw, e, _, hsw⟩ := samps_of_owns (l := f k) (by rw [hlen]; exact hO)
      rw [hlen] at e
      subst e
      have BR := Lib.hid hB
      by_cases hc : cd = 0
      · have P1 := Lib.hid (budget_share total qw cw (f k) HWI.out (ECD.out.symm.trans hc) wr hsw)
        rw [hlen, ← ES.out] at P1
        have HC0 := Lib.hid hc
        have QN := HQN.out
        clear hO ho2 hB hsw hlen hc HWN HW0 HWL HWT HT
        go_wp2_with fail
        (with_reducible refine P1.out.mono ?_)
        rintro e w3 ⟨u3, rfl, ho3, hb3⟩
        have hsl : S.length = k := by have := ho3.1; rw [intVals_len] at this; omega
        have ho3' := ho3
        rw [show k = S.length from hsl.symm] at ho3'
        obtain ⟨p3, c3, e, _, hi3⟩ := ints_of_owns (l := S) (by rw [hsl]; exact ho3)
        rw [hsl] at e
        subst e
        have B3 := Lib.hid (BR.out.trans (hb3.mono BR.out.size))
        have I3 := Lib.hid hi3
        have SL := Lib.hid hsl
        have P2 := Lib.hid (clone_advs q k c A EN.out.symm (by omega) QN w3 (HS.out.below B3.out))
        clear ho3 ho3' hi3 hb3 hsl P1 BR QN
        go_wp2_with fail
        (with_reducible refine P2.out.mono ?_)
        rintro e w4 ⟨u4, rfl, ho4, hb4⟩
        obtain ⟨p4, c4, rfl, _⟩ := ho4.sl
        have B4 := Lib.hid hb4
        have O4 := Lib.hid ho4
        have Z0 := Lib.hid (Fit.part_zero S A)
        have ZN := Lib.hid (Fit.part_next S A)
        have ZL : Hid (∀ j, (Fit.part S A j).length = A.length * 5) := fun j => by unfold Fit.part; rw [List.length_mapIdx, advVals_len]
        clear ho4 hb4 P2
        go_wp2
        go_loopw [55] (fun i wq => ∃ m : Nat, m ≤ k ∧ i = .int .i64 (m : Nat) ∧ Owns wq w3.heap.size 5 (.slice p4 k c4) k (Fit.part S A m) ∧ Below w3.heap.size w3 wq) (fun i _ => k - (intOf i).toNat)
        case atStart => exact ⟨0, by omega, rfl, by rw [Z0.out]; exact O4.out, B4.out⟩
        case round =>
          obtain ⟨m, hm, rfl, hO, hB⟩ := hrel
          by_cases hlm : m < k
          · have hml : m < A.length := by have := EN.out; omega
            obtain ⟨g, cap', e, hg1, _, _, _, hth⟩ := hO.some_of2 (by omega)
            simp only [Value.slice.injEq] at e
            obtain ⟨rfl, _, rfl⟩ := e
            obtain ⟨hso, hfr⟩ := hth (m * 5 + 3) (by omega)
            obtain ⟨old, hold⟩ := Option.isSome_iff_exists.1 hso
            obtain ⟨bh, oh, hp3, hbh, hch⟩ := Sl.pos I3.out (by have := SL.out; omega)
            subst hp3
            have ch := hch m (by have := SL.out; omega)
            rw [← hB.cell (p := ⟨bh, _, none⟩) hbh] at ch
            have zn := ZN.out m hml
            have hx := hO.putOne rfl (m * 5 + 3) (.int .i64 (Bud.hv S m)) (by omega)
            rw [← zn] at hx
            unfold Bud.hv at hx
            obtain ⟨y, ey⟩ : ∃ y, y = S[m]?.getD 0 := ⟨_, rfl⟩
            rw [← ey] at ch hx
            have O5 := Lib.hid hx
            have B5 := Lib.hid (hB.setCell (p := ⟨g, m * 5 + 3, none⟩) hg1 (.int .i64 y))
            have hmk : (m : Int) < k := by omega
            have hm0 : (0 : Int) ≤ m := by omega
            clear hO hB hth hso zn hx ey hml
            go_wp2
            exact ⟨⟨m + 1, by omega, by go_num, O5.out, B5.out⟩, by simp [intOf]; omega⟩
          · obtain rfl : m = k := by omega
            have OF := Lib.hid (hO.mono B3.out.size)
            have BF := Lib.hid (B3.out.trans (hB.mono B3.out.size))
            clear hO hB
            go_wp2
            exact bodyPost_ret (results_tmp2 rfl _ _ _) rfl ⟨BF.out, fun h => absurd HC0.out h, fun _ => ⟨_, rfl, OF.out⟩⟩
      · have P1 := Lib.hid (budget_share_bad total qw cw (f k) HWI.out (by omega) (fun h => hc (ECD.out.trans h)) wr hsw)
        rw [hlen, ← ECD.out] at P1
        have hcb : (cd == 0) = false := beq_eq_false_iff_ne.2 hc
        have HC0 := Lib.hid hc
        clear hO ho2 hB hsw hlen hc HWN HW0 HWL HWT HT
        go_wp2_with fail
        (with_reducible refine P1.out.mono ?_)
        rintro e w3 ⟨rfl, hb3⟩
        have B3 := Lib.hid (BR.out.trans (hb3.mono BR.out.size))
        clear hb3 P1 BR
        go_wp2
        exact bodyPost_ret (results_tmp2 rfl _ _ _) rfl ⟨B3.out, fun _ => rfl, fun h => absurd h HC0.out⟩
end Go.Proofs.Ytcanbagnehdbiaa
