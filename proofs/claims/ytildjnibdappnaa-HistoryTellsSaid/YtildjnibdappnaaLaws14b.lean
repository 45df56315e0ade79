/- Layer 14: the laws, walked: what is told of decisions. -/
import Derived.Test.YtildjnibdappnaaLaws14
import Derived.Test.YtildjnibdappnaaAdv6
import Derived.Deep.CutRange
namespace Go.Proofs.Ytildjnibdappnaa
open Go.ChangeShapes Go.WideShapes Go.ChangeAt Go.RowKit

section
variable {P : Program}
/-- A row of ints is equal to itself. -/
theorem run_equalIn_ints (d : Nat) (t e : TypeId) (n : Nat) (cs : Array Value) (f : Nat → Int) (hc : ∀ i, i < n → cs[i]? = some (.int .i64 (f i))) (ht : P.underlying t = some (.array n e)) (he : P.underlying e = some (.int .i64)) (hsz : ∀ w, (sizeOf e).run P w = .ok 1 w) (w : World) :
    (Op.equalIn (d + 2) t (.agg cs) (.agg cs)).run P w = .ok true w := by
  rw [Op.equalIn]
  simp only [Sem.run_bind, run_underlying ht, Result.andThen_ok, hsz, Std.Legacy.Range.forIn_eq_forIn_range', Std.Legacy.Range.size, Nat.sub_zero, Nat.add_sub_cancel, Nat.div_one]
  have hl : ∀ i ∈ List.range' 0 n 1, i < n := fun i hi => by simpa using (List.mem_range'_1.1 hi).2
  generalize List.range' 0 n 1 = l at hl ⊢
  induction l with
  | nil => simp
  | cons i l ih =>
    have hi : i < n := hl i (by simp)
    have px : (part e cs (i * 1)).run P w = .ok (.int .i64 (f i)) w := by
      simp [part, isAgg, run_underlying he, hc i hi]
    have pe : (Op.equalIn (d + 1) e (.int .i64 (f i)) (.int .i64 (f i))).run P w = .ok true w := by
      rw [run_equalIn_int w _ _ _ _ _ _ he]
      simp
    simp only [List.forIn_cons, Sem.run_bind, px, pe, Result.andThen_ok, Bool.not_true, Bool.false_eq_true, if_false, Sem.run_pure]
    exact ih fun j hj => hl j (by simp [hj])
end
theorem Adv.row7_get (t : Nat → Int) (j : Nat) (hj : j < 7) : (Adv.row7 t)[j]? = some (.int .i64 (t j)) := by
  match j, hj with
  | 0, _ => rfl
  | 1, _ => rfl
  | 2, _ => rfl
  | 3, _ => rfl
  | 4, _ => rfl
  | 5, _ => rfl
  | 6, _ => rfl
theorem row7_equal (t : Nat → Int) (w : World) : (Op.equalIn 10000 39 (.agg (Adv.row7 t)) (.agg (Adv.row7 t))).run Try.prog w = .ok true w :=
  run_equalIn_ints (P := Try.prog) 9998 39 3 7 _ t (fun i hi => Adv.row7_get t i hi) Try.underlying39 Try.underlying3 (fun w => by kernel_rfl) w

set_option maxHeartbeats 4000000 in
set_option maxRecDepth 100000 in
theorem historyTells_walk (p : Option Addr) (cap : Nat) (l : List Adv) (hb : l.length ≤ 9223372036854775807) (tick hold : Int) (ht : I64 tick) (hh : I64 hold) (w : World) (hs : Advs w p l) :
    Calls Try.prog 4 #[.slice p l.length cap, .int .i64 tick, .int .i64 hold] w fun e w' => e = .returned (.bool true) ∧ Below w.heap.size w w' := by
  by_cases h100 : 100 < l.length
  · obtain ⟨n, hn⟩ : ∃ n, n = l.length := ⟨_, rfl⟩
    rw [← hn] at hb h100 ⊢
    have d1 : decide ((100 : Int) < n) = true := decide_eq_true (by omega)
    clear hs hn
    go_enter Try.func4, Try.ntmps4
    go_wp2_with fail
    (with_reducible refine (awake14 _).mono ?_)
    rintro e w1 ⟨rfl, hb1⟩
    have B1 := Lib.hid hb1
    clear hb1
    go_wp2
    go_ret
    exact ⟨rfl, B1.out⟩
  have f1 := fun (W : World) (h : Advs W p l) => history_highest p cap l tick hold ht hh (by omega) W h
  have f2 := fun (W : World) (h : Advs W p l) => ref14_highest p cap l tick hold ht hh (by omega) W h
  have f3 := fun (W : World) (h : Advs W p l) => history_changes p cap l (by omega) W h
  have f4 := fun (W : World) (h : Advs W p l) => history_reasons p cap l (by omega) W h
  obtain ⟨z, ez⟩ : ∃ z, z = Adv.highest l (Sat.clamp (tick - hold)) tick := ⟨_, rfl⟩
  simp only [← ez] at f1 f2
  obtain ⟨hz, bz⟩ := z
  simp only at f1 f2
  clear ez
  have HS := Lib.hid hs
  obtain ⟨n, hn⟩ : ∃ n, n = l.length := ⟨_, rfl⟩
  have HG : Hid (Adv.tally (l.take n) = Adv.tally l) := by show _ = _; rw [hn, List.take_length]
  have HZ := Lib.hid (Adv.row7_zero l)
  have HRE := Lib.hid (fun j : Nat => show Adv.rep l j = (l[j]?.getD default).repl from rfl)
  obtain ⟨g, eg⟩ : ∃ g, g = Adv.rep l := ⟨_, rfl⟩
  obtain ⟨tl, etl⟩ : ∃ g, g = Adv.tally l := ⟨_, rfl⟩
  rw [← eg] at HRE
  rw [← etl] at HG
  simp only [← hn, ← eg] at f1 f2 f3
  simp only [← hn, ← etl] at f4
  rw [← hn] at h100 ⊢
  have HN := Lib.hid hn
  have F1 := Lib.hid f1
  have F2 := Lib.hid f2
  have F3 := Lib.hid f3
  have F4 := Lib.hid f4
  have d1 : decide ((100 : Int) < n) = false := decide_eq_false (by omega)
  clear f1 f2 f3 f4 hs hn eg etl hb
  go_enter Try.func4, Try.ntmps4
  go_wp2_with fail
  (with_reducible refine (awake14 _).mono ?_)
  rintro e w1 ⟨rfl, hb1⟩
  have B1 := Lib.hid hb1
  clear hb1
  go_wp2_with fail
  (with_reducible refine (F1.out _ (HS.out.below B1.out)).mono ?_)
  rintro e w2 ⟨rfl, hb2⟩
  have B2 := Lib.hid (B1.out.trans (hb2.mono B1.out.size))
  clear hb2
  go_wp2_with fail
  (with_reducible refine (F2.out _ (HS.out.below B2.out)).mono ?_)
  rintro e w3 ⟨rfl, hb3⟩
  have B3 := Lib.hid (B2.out.trans (hb3.mono B2.out.size))
  have M3 : Hid (Mem w (w3.alloc (.cells #[.int .i64 0, .int .i64 0, .int .i64 0, .int .i64 0, .int .i64 0, .int .i64 0, .int .i64 0] 39)) [(w3.heap.size, .cells (Adv.row7 (Adv.tally (l.take 0))) 39 (0, 0))]) := by
    show Mem _ _ _
    rw [HZ.out]
    exact ((Mem.start w).call B3.out).alloc _
  clear hb3
  go_wp2
  obtain ⟨Y, eY⟩ : ∃ Y, Y = w3.heap.size := ⟨_, rfl⟩
  rw [← eY] at M3 ⊢
  clear eY
  go_loopw [11, 36] (fun c i wr => ∃ k : Nat, k ≤ n ∧ i = .int .i64 k ∧ c = .int .i64 (Adv.changes g k : Nat) ∧ Mem w wr [(Y, .cells (Adv.row7 (Adv.tally (l.take k))) 39 (0, 0))]) (fun _ i _ => n - (intOf i).toNat)
  case atStart => exact ⟨0, by omega, rfl, rfl, M3.out⟩
  case round =>
    obtain ⟨k, hk, rfl, rfl, hM⟩ := hrel
    by_cases hlt : k < n
    · have hkl : k < l.length := by have := HN.out; omega
      obtain ⟨b, off, rfl, hbw, _⟩ := HS.out.cells k hkl
      have hc0 := fun (W : World) (h : Below w.heap.size w W) => (HS.out.below h).at k hkl
      have hcp := fun (W : World) (h : Below w.heap.size w W) (j : Nat) (hj : j < l.length) => ((HS.out.below h).at j hj).2.2.2.1
      have hnx := Adv.tally_next l k hkl
      have htb := Adv.tally_bd (l.take k)
      have hlen : (l.take k).length ≤ k := List.length_take_le _ _
      have hgk := HRE.out k
      have hcle := Adv.changes_le g k
      have hs1 := Adv.changes_same (g := g) (k := k)
      have hs2 := Adv.changes_more (g := g) (k := k)
      obtain ⟨ch, ech⟩ : ∃ x, x = Adv.changes g k := ⟨_, rfl⟩
      obtain ⟨ch2, ech2⟩ : ∃ x, x = Adv.changes g (k + 1) := ⟨_, rfl⟩
      rw [← ech] at hs1 hs2 hcle ⊢
      rw [← ech2] at hs1 hs2
      have HC2 : Hid (k = 0 → ch = 0 ∧ ch2 = 0) := fun h => by subst h; exact ⟨ech.trans rfl, ech2.trans rfl⟩
      have EC2 := Lib.hid ech2
      obtain ⟨a, ha⟩ : ∃ a, a = l[k]?.getD default := ⟨_, rfl⟩
      simp only [← ha] at hc0 hnx
      rw [← ha] at hgk
      obtain ⟨t, et⟩ : ∃ t, t = Adv.tally (l.take k) := ⟨_, rfl⟩
      obtain ⟨t2, et2⟩ : ∃ t, t = Adv.tally (l.take (k + 1)) := ⟨_, rfl⟩
      simp only [← et, ← et2] at hnx htb hM
      have ET := Lib.hid et2
      have HNX := Lib.hid hnx
      have HTB := Lib.hid (fun i => And.intro (htb i).1 (Nat.le_trans hlen hk |> fun h => show t i ≤ n by have := (htb i).2; omega))
      have HC0 := Lib.hid hc0
      have HCP := Lib.hid hcp
      have HS1 := Lib.hid hs1
      have HS2 := Lib.hid hs2
      have HCL := Lib.hid hcle
      clear ha et et2 ech ech2 hc0 hcp hnx htb hlen hs1 hs2 hcle
      obtain ⟨tick1, load, want, repl, why⟩ := a
      simp only at HC0 hgk HNX
      have HGK := Lib.hid hgk
      have MA := Lib.hid (hM.alloc (.cells #[.int .i64 tick1, .int .i64 load, .int .i64 want, .int .i64 repl, .int .i64 why] 24))
      obtain ⟨c0, c1, c2, c3, c4⟩ := HC0.out _ hM.below
      clear hM hgk
      go_upto_region 12 with fail
      obtain ⟨X, eX⟩ : ∃ X, X = wr.heap.size := ⟨_, rfl⟩
      rw [← eX] at MA ⊢
      obtain ⟨wa, ewa⟩ : ∃ W, W = wr.alloc (.cells #[.int .i64 tick1, .int .i64 load, .int .i64 want, .int .i64 repl, .int .i64 why] 24) := ⟨_, rfl⟩
      rw [← ewa] at MA ⊢
      clear eX ewa c0 c1 c2 c3 c4
      go_cut [53] from 37 to 74 (fun s53 wx => Mem w wx [(Y, .cells (Adv.row7 t) 39 (0, 0)), (X, .cells #[.int .i64 tick1, .int .i64 load, .int .i64 want, .int .i64 repl, .int .i64 why] 24 (0, 0))] ∧ ∃ cb : Bool, s53 = .bool cb ∧ Hid (ch2 = if cb then ch + 1 else ch))
      case first =>
        have x3 := MA.out.cell 1 3 rfl rfl
        by_cases k0 : k = 0
        · subst k0
          have HX : Hid (ch2 = if false = true then ch + 1 else ch) := by show _ = _; rw [(HC2.out rfl).1, (HC2.out rfl).2]; rfl
          clear HS1 HS2 HC2 HCP
          go_quiet (fail)
          go_wp2_with fail
          go_meet
          exact ⟨MA.out.drewN _, false, rfl, HX.out⟩
        · obtain ⟨j, rfl⟩ : ∃ j, k = j + 1 := ⟨k - 1, by omega⟩
          have hs1 := HS1.out (by omega)
          have hs2 := HS2.out (by omega)
          rw [Nat.add_sub_cancel, HGK.out] at hs1 hs2
          have c9 := HCP.out _ MA.out.below j (by omega)
          rw [← HRE.out j] at c9
          have d0 : decide ((0:Int) < (j:Int) + 1) = true := decide_eq_true (by omega)
          obtain ⟨y, ey⟩ : ∃ y, y = g j := ⟨_, rfl⟩
          rw [← ey] at c9 hs1 hs2
          have S1 := Lib.hid hs1
          have S2 := Lib.hid hs2
          clear hs1 hs2 k0 HS1 HS2 HC2 HCP ey
          have i1 : (0:Int) ≤ (j:Int) := by omega
          have i2 : (j:Int) + 1 - 1 = (j:Int) := by omega
          have i3 : (j:Int) < n := by omega
          by_cases hxy : repl = y
          · subst hxy
            have HX : Hid (ch2 = if false = true then ch + 1 else ch) := S1.out rfl
            clear S1 S2
            go_quiet (fail)
            go_wp2_with fail
            go_meet
            exact ⟨MA.out.drewN _, false, rfl, HX.out⟩
          · have hxb : (repl == y) = false := beq_eq_false_iff_ne.2 hxy
            have hxn : (repl != y) = true := by simpa using hxy
            have HX : Hid (ch2 = if true = true then ch + 1 else ch) := S2.out hxy
            clear S1 S2
            go_quiet (fail)
            go_wp2_with fail
            go_meet
            exact ⟨MA.out.drewN _, true, rfl, HX.out⟩
      case rest =>
        obtain ⟨hM, cb, rfl, HX⟩ := hcut
        clear MA
        obtain ⟨wb, ewb⟩ : ∃ W, W = wc := ⟨_, rfl⟩
        rw [← ewb] at hM ⊢
        clear ewb wa
        have MB := Lib.hid hM
        clear hM
        have HCL2 := HCL.out
        go_upto_if 53 with fail
        go_cut [11] from 37 to 74 (fun s11 wx => Mem w wx [(Y, .cells (Adv.row7 t) 39 (0, 0)), (X, .cells #[.int .i64 tick1, .int .i64 load, .int .i64 want, .int .i64 repl, .int .i64 why] 24 (0, 0))] ∧ s11 = .int .i64 ch2)
        case first =>
          cases cb with
          | false =>
            have hx : ch2 = ch := HX.out
            have HX2 := Lib.hid hx
            clear hx HX
            go_wp2_with fail
            go_meet
            exact ⟨MB.out, by rw [HX2.out]⟩
          | true =>
            have hx : ch2 = ch + 1 := HX.out
            have HX2 := Lib.hid hx
            clear hx HX
            go_wp2_with fail
            go_meet
            exact ⟨MB.out, by rw [HX2.out]; go_num⟩
        case rest =>
          obtain ⟨hM, rfl⟩ := hcut
          clear MB HX
          obtain ⟨wd, ewb⟩ : ∃ W, W = wc := ⟨_, rfl⟩
          rw [← ewb] at hM ⊢
          clear ewb wb
          have MC := Lib.hid hM
          have y4 := hM.cell 1 4 rfl rfl
          clear hM
          have hbump := fun (j : Nat) (hj : j < 7) (h : Adv.slot ⟨tick1, load, want, repl, why⟩ = j) => Adv.row7_bump t t2 j hj (by intro i; have := HNX.out i; rw [h] at this; exact this)
          have HBU := Lib.hid hbump
          clear hbump
          by_cases hw : 1 ≤ why ∧ why ≤ 6
          · obtain ⟨j, rfl⟩ : ∃ j : Nat, why = j := ⟨why.toNat, by omega⟩
            have hsl : Adv.slot ⟨tick1, load, want, repl, (j : Int)⟩ = j := by unfold Adv.slot; rw [if_pos hw]; simp
            have HU := Lib.hid (HBU.out j (by omega) hsl)
            have e1 : decide ((1:Int) ≤ j) = true := decide_eq_true hw.1
            have e2 : decide ((j:Int) ≤ 6) = true := decide_eq_true hw.2
            have i7 : (j:Int) < 7 := by omega
            have cY := MC.out.cell 0 j rfl (Adv.row7_get t j (by omega))
            have gY := MC.out.free 0 j rfl
            have htj := HTB.out j
            clear hsl hw
            go_wp2
            exact ⟨⟨k + 1, by omega, by go_num, by rw [EC2.out], by rw [← ET.out, HU.out]; exact (MC.out.setCell 0 j (.int .i64 (t j + 1)) rfl).init⟩, by simp [intOf]; omega⟩
          · have hsl : Adv.slot ⟨tick1, load, want, repl, why⟩ = 0 := by unfold Adv.slot; rw [if_neg hw]
            have HU := Lib.hid (HBU.out 0 (by omega) hsl)
            have cY := MC.out.cell 0 0 rfl (Adv.row7_get t 0 (by omega))
            have gY := MC.out.free 0 0 rfl
            have htj := HTB.out 0
            clear hsl
            by_cases hw1 : 1 ≤ why
            · have hw2 : 6 < why := by omega
              clear hw
              go_wp2
              exact ⟨⟨k + 1, by omega, by go_num, by rw [EC2.out], by rw [← ET.out, HU.out]; exact (MC.out.setCell 0 0 (.int .i64 (t 0 + 1)) rfl).init⟩, by simp [intOf]; omega⟩
            · clear hw
              go_wp2
              exact ⟨⟨k + 1, by omega, by go_num, by rw [EC2.out], by rw [← ET.out, HU.out]; exact (MC.out.setCell 0 0 (.int .i64 (t 0 + 1)) rfl).init⟩, by simp [intOf]; omega⟩
    · obtain rfl : k = n := by omega
      rw [HG.out] at hM
      have MM := Lib.hid hM
      clear hM
      obtain ⟨ch, ech⟩ : ∃ x, x = Adv.changes g k := ⟨_, rfl⟩
      rw [← ech] at F3 ⊢
      clear ech
      have hst := stab_and (stab_mem (w := w) (bs := [(Y, .cells (Adv.row7 tl) 39 (0, 0))])) (stab_pure True)
      cases bz <;> (
      go_wp2_with fail
      refine wp_region_E mixed [] hst ⟨MM.out.drewN 1, trivial⟩ ?_
      refine wpAnyE_take 0 rfl (by kernel_rfl) (by kernel_rfl) (by kernel_rfl) (fun _ _ _ h => h) hst (EffB.pure rfl (fun _ => rfl)) (.inr (EffB.pure rfl (fun _ => rfl))) ?_
      simp only [act_norm]
      refine wpAnyE_take 1 rfl (by kernel_rfl) (by kernel_rfl) (by kernel_rfl) (fun _ _ _ h => h) hst (EffB.pure rfl (fun _ => rfl)) (.inr (EffB.pure rfl (fun _ => rfl))) ?_
      simp only [act_norm]
      refine wpAnyE_take 2 (v := .bool true) rfl (by kernel_rfl) (by kernel_rfl) (by kernel_rfl) (fun _ _ _ h => h) hst (EffB.run rfl rfl (fun wd hS => ?_)) (.inr (EffB.run rfl rfl (fun wd hS => ?_))) ?_
      · (go_wp2; exact ⟨rfl, Below.refl _ _⟩)
      · (go_wp2; exact ⟨rfl, Below.refl _ _⟩)
      simp only [act_norm]
      refine wpAnyE_take 3 rfl (by kernel_rfl) (by kernel_rfl) (by kernel_rfl) (fun _ _ _ h => h) hst (EffB.pure rfl (fun _ => rfl)) (.inr (EffB.pure rfl (fun _ => rfl))) ?_
      simp only [act_norm]
      refine wpAnyE_take 4 rfl (by kernel_rfl) (by kernel_rfl) (by kernel_rfl) (fun _ _ _ h => h) hst (EffB.pure rfl (fun _ => rfl)) (.inr (EffB.pure rfl (fun _ => rfl))) ?_
      simp only [act_norm]
      refine wpAnyE_take 5 rfl (by kernel_rfl) (by kernel_rfl) (by kernel_rfl) (fun _ _ _ h => h) hst (EffB.pure rfl (fun _ => rfl)) (.inr (EffB.pure rfl (fun _ => rfl))) ?_
      simp only [act_norm]
      refine wpAnyE_take 6 (v := .bool true) rfl (by kernel_rfl) (by kernel_rfl) (by kernel_rfl) (fun _ _ _ h => h) hst (EffB.run rfl rfl (fun wd hS => ?_)) (.inr (EffB.run rfl rfl (fun wd hS => ?_))) ?_
      · (go_wp2; exact ⟨rfl, Below.refl _ _⟩)
      · (go_wp2; exact ⟨rfl, Below.refl _ _⟩)
      simp only [act_norm]
      refine wpAnyE_take 7 (v := .bool true) rfl (by kernel_rfl) (by kernel_rfl) (by kernel_rfl) (fun _ _ _ h => h) hst (EffB.run rfl rfl (fun wd hS => ?_)) (.inr (EffB.run rfl rfl (fun wd hS => ?_))) ?_
      · (go_wp2; exact ⟨rfl, Below.refl _ _⟩)
      · (go_wp2; exact ⟨rfl, Below.refl _ _⟩)
      simp only [act_norm]
      refine wpAnyE_take 8 rfl (by kernel_rfl) (by kernel_rfl) (by kernel_rfl) (fun _ _ _ h => h) hst (EffB.pure rfl (fun _ => rfl)) (.inr (EffB.pure rfl (fun _ => rfl))) ?_
      simp only [act_norm]
      refine wpAnyE_take 9 rfl (by kernel_rfl) (by kernel_rfl) (by kernel_rfl) (fun _ _ _ h => h) hst (EffB.pure rfl (fun _ => rfl)) (.inr (EffB.pure rfl (fun _ => rfl))) ?_
      simp only [act_norm]
      refine wpAnyE_take 10 (v := .int .i64 ch) rfl (by kernel_rfl) (by kernel_rfl) (by kernel_rfl) (fun _ _ _ h => h) hst (EffB.run rfl rfl (fun wd hS => ?_)) (.inl (by kernel_rfl)) ?_
      · (go_wp2_with fail; (with_reducible refine (F3.out wd (HS.out.below hS.1.below)).mono ?_); rintro e w'' ⟨rfl, hb⟩; exact ⟨rfl, hb⟩)
      simp only [act_norm]
      refine wpAnyE_take 11 rfl (by kernel_rfl) (by kernel_rfl) (by kernel_rfl) (fun _ _ _ h => h) hst (EffB.pure rfl (fun _ => rfl)) (.inr (EffB.pure rfl (fun _ => rfl))) ?_
      simp only [act_norm]
      refine wpAnyE_take 12 (v := .bool true) rfl (by kernel_rfl) (by kernel_rfl) (by kernel_rfl) (fun _ _ _ h => h) hst (EffB.run rfl rfl (fun wd hS => ?_)) (.inr (EffB.run rfl rfl (fun wd hS => ?_))) ?_
      · (go_wp2; exact ⟨rfl, Below.refl _ _⟩)
      · (go_wp2; exact ⟨rfl, Below.refl _ _⟩)
      simp only [act_norm]
      refine wpAnyE_take 13 (v := .bool true) rfl (by kernel_rfl) (by kernel_rfl) (by kernel_rfl) (fun _ _ _ h => h) hst (EffB.run rfl rfl (fun wd hS => ?_)) (.inr (EffB.run rfl rfl (fun wd hS => ?_))) ?_
      · (go_wp2; exact ⟨rfl, Below.refl _ _⟩)
      · (go_wp2; exact ⟨rfl, Below.refl _ _⟩)
      simp only [act_norm]
      refine wpAnyE_take 14 rfl (by kernel_rfl) (by kernel_rfl) (by kernel_rfl) (fun _ _ _ h => h) hst (EffB.pure rfl (fun _ => rfl)) (.inr (EffB.pure rfl (fun _ => rfl))) ?_
      simp only [act_norm]
      refine wpAnyE_take 15 rfl (by kernel_rfl) (by kernel_rfl) (by kernel_rfl) (fun _ _ _ h => h) hst (EffB.pure rfl (fun _ => rfl)) (.inr (EffB.pure rfl (fun _ => rfl))) ?_
      simp only [act_norm]
      refine wpAnyE_take 16 (v := .agg (Adv.row7 tl)) rfl (by kernel_rfl) (by kernel_rfl) (by kernel_rfl) (fun _ _ _ h => h) hst (EffB.run rfl rfl (fun wd hS => ?_)) (.inl (by kernel_rfl)) ?_
      · (go_wp2_with fail; (with_reducible refine (F4.out wd (HS.out.below hS.1.below)).mono ?_); rintro e w'' ⟨rfl, hb⟩; exact ⟨rfl, hb⟩)
      simp only [act_norm]
      refine wpAnyE_take 17 (v := .agg (Adv.row7 tl)) rfl (by kernel_rfl) (by kernel_rfl) (by kernel_rfl) (fun _ _ _ h => h) hst (EffB.run rfl rfl (fun wd hS => ?_)) (.inl (by kernel_rfl)) ?_
      · exact wp_load_row 39 _ rfl (Y) rfl 39 (Adv.row7 tl) (0, 0) _ (hS.1.heap 0 rfl) Try.underlying39 rfl (by kernel_rfl) ⟨rfl, Below.refl _ _⟩
      simp only [act_norm]
      refine wpAnyE_take 18 (v := .bool true) rfl (by kernel_rfl) (by kernel_rfl) (by kernel_rfl) (fun _ _ _ h => h) hst (EffB.run rfl rfl (fun wd hS => ?_)) (.inl (by kernel_rfl)) ?_
      · exact wp_eql_agg _ _ _ _ rfl _ _ rfl rfl true (by kernel_rfl) (row7_equal tl _) ⟨rfl, Below.refl _ _⟩
      simp only [act_norm]
      refine wpAnyE_take 19 (v := .bool true) rfl (by kernel_rfl) (by kernel_rfl) (by kernel_rfl) (fun _ _ _ h => h) hst (EffB.run rfl rfl (fun wd hS => ?_)) (.inr (EffB.run rfl rfl (fun wd hS => ?_))) ?_
      · (go_wp2; exact ⟨rfl, Below.refl _ _⟩)
      · (go_wp2; exact ⟨rfl, Below.refl _ _⟩)
      simp only [act_norm]
      refine wpAnyE_take 20 rfl (by kernel_rfl) (by kernel_rfl) (by kernel_rfl) (fun _ _ _ h => h) hst (EffB.pure rfl (fun _ => rfl)) (.inr (EffB.pure rfl (fun _ => rfl))) ?_
      simp only [act_norm]
      refine wpAnyE_done (by kernel_rfl) (fun wd hS => ?_) _
      have HF := Lib.hid hS.1.below
      clear hS
      go_wp2
      go_ret
      exact ⟨rfl, HF.out⟩)
end Go.Proofs.Ytildjnibdappnaa
