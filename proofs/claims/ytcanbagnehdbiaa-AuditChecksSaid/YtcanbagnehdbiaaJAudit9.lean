/- Layer 48: how many decisions have each rule: seen one after another. -/
import Derived.Test.YtcanbagnehdbiaaJAudit8
namespace Go.Proofs.Ytcanbagnehdbiaa
open Go.ChangeShapes Go.WideShapes Go.ChangeAt Go.RowKit

theorem Aud.rule_bd (p : Pol) (past : List Adv) (a : Adv) : 0 ≤ Aud.rule p past a ∧ Aud.rule p past a ≤ 5 := by
  unfold Aud.rule Aud.rule'
  repeat' split
  all_goals omega
/-- How many of the first k have each rule. -/
def Aud.cnt (ru : Nat → Int) : Nat → Nat → Int
  | 0 => fun _ => 0
  | k + 1 => fun i => if i = (ru k).toNat then Aud.cnt ru k (ru k).toNat + 1 else Aud.cnt ru k i
theorem Aud.cnt_bd (ru : Nat → Int) : ∀ k j, 0 ≤ Aud.cnt ru k j ∧ Aud.cnt ru k j ≤ k
  | 0, j => by simp [Aud.cnt]
  | k + 1, j => by
    have h1 := Aud.cnt_bd ru k j
    have h2 := Aud.cnt_bd ru k (ru k).toNat
    unfold Aud.cnt
    split <;> omega

set_option maxHeartbeats 4000000 in
set_option maxRecDepth 100000 in
theorem each_counts (p : Pol) (hp : p.In) (q : Option Addr) (cap : Nat) (l : List Adv) (hl : ∀ a ∈ l, a.In) (hb : l.length ≤ 1000) (room : Int) (w0 w : World) (hs : Advs w0 q l) (c : Nat) (rb : Nat × Obj)
    (hM : Mem w0 w [(w0.heap.size, .cells #[.int .i64 p.mn, .int .i64 p.mx, .int .i64 p.tg, .int .i64 p.tl, .int .i64 p.wi, .int .i64 p.ho] 23), (c, .cells (Aud.row6 (fun _ => 0)) 30 (0, 0)), rb]) :
    Calls Try.prog 62 #[.agg #[.int .i64 p.mn, .int .i64 p.mx, .int .i64 p.tg, .int .i64 p.tl, .int .i64 p.wi, .int .i64 p.ho], .slice q l.length cap, .int .i64 room, .func (.func 66) #[] #[.pointer (some ⟨c, 0, none⟩)]] w fun e w' => e = .returned (.tuple #[]) ∧
      Mem w0 w' [(w0.heap.size, .cells #[.int .i64 p.mn, .int .i64 p.mx, .int .i64 p.tg, .int .i64 p.tl, .int .i64 p.wi, .int .i64 p.ho] 23), (c, .cells (Aud.row6 (Aud.cnt (Aud.at p room l) l.length)) 30 (0, 0)), rb] := by
  have HS := Lib.hid hs
  have HIN := Lib.hid (Aud.kept_In room l hl)
  have HLE := Lib.hid (Aud.kept_len room l)
  have HKN := Lib.hid (fun k => show Aud.kept room l (k + 1) = if 1 ≤ room ∧ room ≤ 64 then Ring.next room.toNat (Aud.kept room l k) (l[k]?.getD default) else Aud.kept room l k from rfl)
  have HK0 : Hid (Aud.kept room l 0 = []) := rfl
  have HAT := Lib.hid (fun k => show Aud.at p room l k = Aud.rule p (Aud.kept room l k) (l[k]?.getD default) from rfl)
  have HLI := Lib.hid hl
  have HP := Lib.hid hp
  have HN0 := Lib.hid (hn_new room)
  have LT : Hid (w0.heap.size < w.heap.size ∧ c < w.heap.size ∧ rb.1 < w.heap.size) := ⟨hM.lt (i := 0) rfl, hM.lt (i := 1) rfl, hM.lt (i := 2) (b := rb.1) (o := rb.2) rfl⟩
  have M0 := Lib.hid (hM.alloc (.cells #[.int .i64 p.mn, .int .i64 p.mx, .int .i64 p.tg, .int .i64 p.tl, .int .i64 p.wi, .int .i64 p.ho] 23))
  obtain ⟨n, en⟩ : ∃ n, n = l.length := ⟨_, rfl⟩
  have EN := Lib.hid en
  rw [← en] at hb ⊢
  obtain ⟨kp, ekp⟩ : ∃ kp, kp = Aud.kept room l := ⟨_, rfl⟩
  obtain ⟨ru, eru⟩ : ∃ ru, ru = Aud.at p room l := ⟨_, rfl⟩
  rw [← ekp] at HIN HLE HKN HK0
  simp only [← ekp] at HAT
  rw [← eru] at HAT ⊢
  have HR6 : Hid (∀ k, 0 ≤ ru k ∧ ru k ≤ 5) := fun k => by rw [HAT.out k]; exact Aud.rule_bd _ _ _
  have HCB := Lib.hid (Aud.cnt_bd ru)
  have HCN := Lib.hid (fun k => show Aud.cnt ru (k + 1) = fun i => if i = (ru k).toNat then Aud.cnt ru k (ru k).toNat + 1 else Aud.cnt ru k i from rfl)
  have HC0 : Hid (Aud.cnt ru 0 = fun _ => 0) := rfl
  obtain ⟨cn, ecn⟩ : ∃ cn, cn = Aud.cnt ru := ⟨_, rfl⟩
  rw [← ecn] at HCN HCB HC0 ⊢
  clear hs hl hp en ekp eru hM ecn
  go_enter Try.func62, Try.ntmps62
  go_wp2_with fail
  (with_reducible refine (HN0.out _).mono ?_)
  rintro e w1 ⟨qh, rfl, hh1, hb1⟩
  have M1 := Lib.hid (M0.out.call hb1)
  have H1 := Lib.hid hh1
  obtain ⟨B, eB⟩ : ∃ B, B = (w.alloc (.cells #[.int .i64 p.mn, .int .i64 p.mx, .int .i64 p.tg, .int .i64 p.tl, .int .i64 p.wi, .int .i64 p.ho] 23)).heap.size := ⟨_, rfl⟩
  rw [← eB] at H1
  have hB : B = w.heap.size + 1 := by rw [eB]; simp
  have HB := Lib.hid hB
  clear hb1 hh1 M0 eB hB
  go_wp2
  go_loopw [15] (fun i wr => ∃ k : Nat, k ≤ n ∧ i = .int .i64 (k : Nat) ∧ HN wr B qh room (kp k) ∧ Mem w0 wr [(w0.heap.size, .cells #[.int .i64 p.mn, .int .i64 p.mx, .int .i64 p.tg, .int .i64 p.tl, .int .i64 p.wi, .int .i64 p.ho] 23), (c, .cells (Aud.row6 (cn k)) 30 (0, 0)), rb, (w.heap.size, .cells #[.int .i64 p.mn, .int .i64 p.mx, .int .i64 p.tg, .int .i64 p.tl, .int .i64 p.wi, .int .i64 p.ho] 23)]) (fun i _ => n - (intOf i).toNat)
  case atStart => exact ⟨0, by omega, rfl, by rw [HK0.out]; exact H1.out, by rw [HC0.out]; exact M1.out⟩
  case round =>
    obtain ⟨k, hk, rfl, hH, hM⟩ := hrel
    by_cases hlt : k < n
    · have hkl : k < l.length := by have := EN.out; omega
      obtain ⟨b, off, rfl, hbw, _⟩ := HS.out.cells k hkl
      have hlin := HIN.out k (by omega)
      have hlle := HLE.out k
      have hkn := HKN.out k
      have hat := HAT.out k
      obtain ⟨c0, c1', c2', c3, c4⟩ := (HS.out.below hM.below).at k hkl
      have haI : (l[k]?.getD default).In := by rw [List.getElem?_eq_getElem hkl]; exact HLI.out _ (List.getElem_mem _)
      have hr6 := HR6.out k
      have hcb := HCB.out k
      have hcn := HCN.out k
      obtain ⟨a, ea⟩ : ∃ a, a = l[k]?.getD default := ⟨_, rfl⟩
      rw [← ea] at hkn hat haI c0 c1' c2' c3 c4
      obtain ⟨L, eL⟩ : ∃ L, L = kp k := ⟨_, rfl⟩
      rw [← eL] at hkn hlin hlle hat hH
      have hR := fun (p4 : Option Addr) (d4 : Nat) (W : World) (h : Advs W p4 L) => audit_rule p HP.out p4 d4 L (by omega) a haI W h
      rw [← hat] at hR
      obtain ⟨rl, erl⟩ : ∃ rl, rl = ru k := ⟨_, rfl⟩
      rw [← erl] at hR hr6 hcn
      obtain ⟨R, rfl⟩ : ∃ R : Nat, rl = R := ⟨rl.toNat, by omega⟩
      rw [Int.toNat_natCast] at hcn
      obtain ⟨tk, etk⟩ : ∃ tk, tk = cn k := ⟨_, rfl⟩
      rw [← etk] at hcn hcb hM
      have HCQ := Lib.hid hcn
      have hR5 : R < 6 := by omega
      have htR := hcb R
      obtain ⟨m, em⟩ : ∃ m, m = L.length := ⟨_, rfl⟩
      simp only [← em] at hR
      have EM := Lib.hid em
      have HRU := Lib.hid hR
      have HKQ := Lib.hid hkn
      obtain ⟨tick, load, want, repl, why⟩ := a
      simp only at c0 c1' c2' c3 c4
      have M2 := Lib.hid (hM.alloc (.cells #[.int .i64 tick, .int .i64 load, .int .i64 want, .int .i64 repl, .int .i64 why] 56))
      have H2 := Lib.hid (hH.below (below1 wr (.cells #[.int .i64 tick, .int .i64 load, .int .i64 want, .int .i64 repl, .int .i64 why] 56)))
      have BW : Hid (B ≤ wr.heap.size) := by show _ ≤ _; have := hM.lt (i := 3) rfl; have := HB.out; omega
      clear hH hM hR hkn hat ea eL em hlin haI hlle hkl HIN HLE HKN HLI HAT H1 M1 hr6 hcb hcn HR6 HCB HCN HC0 etk erl
      go_wp2_with fail
      obtain ⟨Y, hY⟩ : ∃ Y, wr.heap.size = Y := ⟨_, rfl⟩
      rw [hY] at M2 ⊢
      have hst := stab_and (stab_mem (w := w0) (bs := [(w0.heap.size, .cells #[.int .i64 p.mn, .int .i64 p.mx, .int .i64 p.tg, .int .i64 p.tl, .int .i64 p.wi, .int .i64 p.ho] 23), (c, .cells (Aud.row6 tk) 30 (0, 0)), rb, (w.heap.size, .cells #[.int .i64 p.mn, .int .i64 p.mx, .int .i64 p.tg, .int .i64 p.tl, .int .i64 p.wi, .int .i64 p.ho] 23), (Y, .cells #[.int .i64 tick, .int .i64 load, .int .i64 want, .int .i64 repl, .int .i64 why] 56)])) (stab_hn (B := B) (q := qh) (room := room) (L := L))
      have START := Lib.hid (And.intro (M2.out.drewN 1) (H2.out.below (below_drew (Below.refl _ _))))
      clear M2 H2 c0 c1' c2' c3 c4 hY
      refine wp_region_E mixed [7] hst START.out ?_
      refine wpAnyE_take 0 rfl (by kernel_rfl) (by kernel_rfl) (by kernel_rfl) (fun _ _ _ h => h) hst (EffB.pure rfl (fun _ => rfl)) (.inr (EffB.pure rfl (fun _ => rfl))) ?_
      simp only [act_norm]
      refine wpAnyE_take 1 rfl (by kernel_rfl) (by kernel_rfl) (by kernel_rfl) (fun _ _ _ h => h) hst (EffB.pure rfl (fun _ => rfl)) (.inr (EffB.pure rfl (fun _ => rfl))) ?_
      simp only [act_norm]
      refine wpAnyE_take 2 (v := .agg #[.int .i64 p.mn, .int .i64 p.mx, .int .i64 p.tg, .int .i64 p.tl, .int .i64 p.wi, .int .i64 p.ho]) rfl (by kernel_rfl) (by kernel_rfl) (by kernel_rfl) (fun _ _ _ h => h) hst (EffB.run rfl rfl (fun wd hS => ?_)) (.inl (by kernel_rfl)) ?_
      · exact wp_load_row 23 _ rfl (w.heap.size) rfl 23 #[.int .i64 p.mn, .int .i64 p.mx, .int .i64 p.tg, .int .i64 p.tl, .int .i64 p.wi, .int .i64 p.ho] (0, 0) _ (hS.1.heap 3 rfl) Try.underlying23 rfl (by kernel_rfl) ⟨rfl, Below.refl _ _⟩
      simp only [act_norm]
      refine wpAnyE_take 3 rfl (by kernel_rfl) (by kernel_rfl) (by kernel_rfl) (fun _ _ _ h => h) hst (EffB.pure rfl (fun _ => rfl)) (.inr (EffB.pure rfl (fun _ => rfl))) ?_
      simp only [act_norm]
      refine wpAnyE_take 5 (v := .agg #[.int .i64 tick, .int .i64 load, .int .i64 want, .int .i64 repl, .int .i64 why]) rfl (by kernel_rfl) (by kernel_rfl) (by kernel_rfl) (fun _ _ _ h => h) hst (EffB.run rfl rfl (fun wd hS => ?_)) (.inl (by kernel_rfl)) ?_
      · exact wp_load_row 56 _ rfl (Y) rfl 56 #[.int .i64 tick, .int .i64 load, .int .i64 want, .int .i64 repl, .int .i64 why] (0, 0) _ (hS.1.heap 4 rfl) Try.underlying56 rfl (by kernel_rfl) ⟨rfl, Below.refl _ _⟩
      simp only [act_norm]
      refine wpAnyE_one 4 rfl (by kernel_rfl) rfl (fun wd hS => ?_)
      have P4 := hn_list hS.2
      simp only [← EM.out] at P4
      go_wp2_with fail
      (with_reducible refine P4.mono ?_)
      rintro e w4 ⟨p4, d4, rfl, hA, hb4⟩
      have hst2 := stab_and hst (stab_advs (q := p4) (l := L))
      refine ⟨_, ⟨hst _ _ hS hb4, hA⟩, hst2, (by first | exact fun _ h => h.1 | exact .inr fun _ h => h.1), ?_⟩
      try simp only [act_norm]
      clear hA hb4 hS hst P4
      have hst := hst2
      clear hst2
      refine wpAnyE_take 6 (v := .int .i64 R) rfl (by kernel_rfl) (by kernel_rfl) (by kernel_rfl) (fun _ _ _ h => h) hst (EffB.run rfl rfl (fun wd hS => ?_)) (.inl (by kernel_rfl)) ?_
      · (go_wp2_with fail; (with_reducible refine (HRU.out p4 d4 wd hS.2).mono ?_); rintro e w'' ⟨rfl, hb⟩; exact ⟨rfl, hb⟩)
      simp only [act_norm]
      refine wpAnyE_one 7 rfl (by kernel_rfl) rfl (fun wd hS => ?_)
      have P7 := Lib.hid (see_counts k R hR5 c tk ⟨htR.1, by have := htR.2; omega⟩ w0 wd _ _ hS.1.1)
      go_wp2_with fail
      (with_reducible refine P7.out.mono ?_)
      rintro e w7 ⟨rfl, hM7, hT7⟩
      have hH7 : HN w7 B qh room L := hS.1.2.turned hT7 (fun k' h1 h2 => by have := LT.out.2.1; have := HB.out; omega)
      have hst3 := stab_and (stab_mem (w := w0) (bs := [(w0.heap.size, .cells #[.int .i64 p.mn, .int .i64 p.mx, .int .i64 p.tg, .int .i64 p.tl, .int .i64 p.wi, .int .i64 p.ho] 23), (c, .cells (Aud.row6 (fun i => if i = R then tk R + 1 else tk i)) 30 (0, 0)), rb, (w.heap.size, .cells #[.int .i64 p.mn, .int .i64 p.mx, .int .i64 p.tg, .int .i64 p.tl, .int .i64 p.wi, .int .i64 p.ho] 23), (Y, .cells #[.int .i64 tick, .int .i64 load, .int .i64 want, .int .i64 repl, .int .i64 why] 56)])) (stab_hn (B := B) (q := qh) (room := room) (L := L))
      refine ⟨_, ⟨hM7, hH7⟩, hst3, ?_⟩
      try simp only [act_norm]
      clear hS P7 hM7 hT7 hH7 hst
      have hst := hst3
      clear hst3
      refine wpAnyE_take 8 (v := .bool false) rfl (by kernel_rfl) (by kernel_rfl) (by kernel_rfl) (fun _ _ _ h => h) hst (EffB.run rfl rfl (fun wd hS => ?_)) (.inr (EffB.run rfl rfl (fun wd hS => ?_))) ?_
      · (go_wp2; exact ⟨rfl, Below.refl _ _⟩)
      · (go_wp2; exact ⟨rfl, Below.refl _ _⟩)
      simp only [act_norm]
      refine wpAnyE_done (by kernel_rfl) (fun wd hS => ?_) _
      have MF := Lib.hid hS.1
      have KF := Lib.hid (hS.1.heap 4 rfl)
      have P7 := Lib.hid (hn_add hS.2 (by have := hS.1.lt (i := 3) rfl; have := HB.out; omega) ⟨tick, load, want, repl, why⟩)
      clear hS hst
      go_wp2_with ((with_reducible refine wpList_load_rowAs rfl 56 _ rfl (Y) ?_ 56 #[.int .i64 tick, .int .i64 load, .int .i64 want, .int .i64 repl, .int .i64 why] (0, 0) _ 5 ?_ Try.underlying56 rfl (by kernel_rfl) ?_ ?_); exact rfl; exact KF.out; exact rfl)
      (with_reducible refine P7.out.mono ?_)
      rintro e w8 ⟨b7, rfl, h7, t7⟩
      have H7 := Lib.hid h7
      have M7 : Hid (Mem w0 w8 [(w0.heap.size, .cells #[.int .i64 p.mn, .int .i64 p.mx, .int .i64 p.tg, .int .i64 p.tl, .int .i64 p.wi, .int .i64 p.ho] 23), (c, .cells (Aud.row6 (fun i => if i = R then tk R + 1 else tk i)) 30 (0, 0)), rb, (w.heap.size, .cells #[.int .i64 p.mn, .int .i64 p.mx, .int .i64 p.tg, .int .i64 p.tl, .int .i64 p.wi, .int .i64 p.ho] 23)]) := (MF.out.init).turnedF t7 (fun k' hk' => ⟨by have := LT.out.1; have := HB.out; omega, fun i o hi => by
        have := LT.out; have := HB.out
        match i, hi with
        | 0, hi => simp at hi; omega
        | 1, hi => simp at hi; omega
        | 2, hi =>
          have e : rb.1 = k' := congrArg Prod.fst (Option.some.inj (show some rb = some (k', o) from hi))
          have := LT.out.2.2
          have := HB.out
          omega
        | 3, hi => simp at hi; omega
        | i + 4, hi => simp at hi⟩)
      clear h7 t7 P7 KF MF
      go_wp2
      exact ⟨⟨k + 1, by omega, by go_num, by rw [HKQ.out]; exact H7.out, by rw [HCQ.out]; exact M7.out⟩, by simp [intOf]; omega⟩
    · obtain rfl : k = n := by omega
      have M2 := Lib.hid hM
      clear hH hM
      go_wp2
      go_end0
      exact ⟨rfl, M2.out.init⟩
end Go.Proofs.Ytcanbagnehdbiaa
