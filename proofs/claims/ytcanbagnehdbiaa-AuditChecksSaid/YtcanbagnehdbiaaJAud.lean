/- General lemmas of several texts, one after another. -/
import Derived.Test.YtcanbagnehdbiaaJAudit3
/- Layer 48: what sees the rules. -/
namespace Go.Proofs.Ytcanbagnehdbiaa
open Go.ChangeShapes Go.WideShapes Go.ChangeAt Go.RowKit

set_option maxRecDepth 100000 in
theorem see_check_fine (i : Int) (c1 c2 : Nat) (w : World) :
    Calls Try.prog 63 #[.int .i64 i, .int .i64 0, .pointer (some ⟨c1, 0, none⟩), .pointer (some ⟨c2, 0, none⟩)] w fun e w' => e = .returned (.bool true) ∧ w = w' := by
  go_enter Try.func63, Try.ntmps63
  go_wp2
  go_ret
  exact ⟨rfl, rfl⟩
set_option maxRecDepth 100000 in
theorem see_check_broken (i r : Int) (hr : ¬ r = 0) (c1 c2 : Nat) (x y : Int) (w0 w : World) (b0 : Nat × Obj) (bs : List (Nat × Obj)) (hM : Mem w0 w (b0 :: (c1, .cells #[.int .i64 x] 3 (0, 0)) :: (c2, .cells #[.int .i64 y] 3 (0, 0)) :: bs)) :
    Calls Try.prog 63 #[.int .i64 i, .int .i64 r, .pointer (some ⟨c1, 0, none⟩), .pointer (some ⟨c2, 0, none⟩)] w fun e w' => e = .returned (.bool false) ∧
      Mem w0 w' (b0 :: (c1, .cells #[.int .i64 i] 3 (0, 0)) :: (c2, .cells #[.int .i64 r] 3 (0, 0)) :: bs) ∧ Turned (fun k => k = c1 ∨ k = c2) w w' := by
  have b : (r == 0) = false := beq_eq_false_iff_ne.2 hr
  have k1 : w.cell? ⟨c1, 0, none⟩ = some (.int .i64 x) := hM.cell 1 0 rfl rfl
  have g1 : w.frozen? ⟨c1, 0, none⟩ = false := hM.free 1 0 rfl
  have M2 : Hid (Mem w0 (w.setCell ⟨c1, 0, none⟩ (.int .i64 i)) (b0 :: (c1, .cells #[.int .i64 i] 3 (0, 0)) :: (c2, .cells #[.int .i64 y] 3 (0, 0)) :: bs)) := hM.setCell 1 0 (.int .i64 i) rfl
  have k2 : (w.setCell ⟨c1, 0, none⟩ (.int .i64 i)).cell? ⟨c2, 0, none⟩ = some (.int .i64 y) := M2.out.cell 2 0 rfl rfl
  have g2 : (w.setCell ⟨c1, 0, none⟩ (.int .i64 i)).frozen? ⟨c2, 0, none⟩ = false := M2.out.free 2 0 rfl
  have M3 : Hid (Mem w0 ((w.setCell ⟨c1, 0, none⟩ (.int .i64 i)).setCell ⟨c2, 0, none⟩ (.int .i64 r)) (b0 :: (c1, .cells #[.int .i64 i] 3 (0, 0)) :: (c2, .cells #[.int .i64 r] 3 (0, 0)) :: bs)) := M2.out.setCell 2 0 (.int .i64 r) rfl
  have T3 : Hid (Turned (fun k => k = c1 ∨ k = c2) w ((w.setCell ⟨c1, 0, none⟩ (.int .i64 i)).setCell ⟨c2, 0, none⟩ (.int .i64 r))) := (Turned.refl.setCell _ (fun _ => .inl rfl)).setCell _ (fun _ => .inr rfl)
  clear hr hM
  go_enter Try.func63, Try.ntmps63
  go_wp2
  go_ret
  exact ⟨rfl, M3.out, T3.out⟩
end Go.Proofs.Ytcanbagnehdbiaa

/- Layer 14: a history that may be none. -/
namespace Go.Proofs.Ytcanbagnehdbiaa
open Go.ChangeShapes Go.WideShapes Go.ChangeAt Go.RowKit

/-- A history, or none where there is no room for one. -/
def HN (w : World) (B : Nat) (q : Option Addr) (room : Int) (L : List Adv) : Prop :=
  (q = none ∧ L = [] ∧ ¬ (1 ≤ room ∧ room ≤ 64)) ∨ ∃ (h r : Nat) (v : Value) (R : Nat), q = some ⟨h, 0, none⟩ ∧ room = R ∧ 1 ≤ R ∧ R ≤ 64 ∧ HistA w B h r v R L
theorem HN.below {w w' : World} {B : Nat} {q : Option Addr} {room : Int} {L : List Adv} (H : HN w B q room L) (hb : Below w.heap.size w w') : HN w' B q room L := by
  rcases H with h | ⟨h, r, v, R, h1, h2, h3, h4, h5⟩
  · exact .inl h
  · exact .inr ⟨h, r, v, R, h1, h2, h3, h4, h5.below hb⟩
theorem stab_hn {B : Nat} {q : Option Addr} {room : Int} {L : List Adv} : Stab (fun w' => HN w' B q room L) := fun _ _ h hb => h.below hb
theorem HN.turned {S : Nat → Prop} {w w' : World} {B : Nat} {q : Option Addr} {room : Int} {L : List Adv} (H : HN w B q room L) (ht : Turned S w w') (hS : ∀ k, B ≤ k → ¬ S k) : HN w' B q room L := by
  rcases H with h | ⟨h, r, v, R, h1, h2, h3, h4, h5⟩
  · exact .inl h
  · obtain ⟨f, ys, g1, g2⟩ := h5.ring
    exact .inr ⟨h, r, v, R, h1, h2, h3, h4, h5.turned ht (hS _ h5.low) (hS _ g1.low) (fun k hk => hS _ (g1.owns.lt k hk).1)⟩
theorem hn_new (room : Int) (w : World) : Calls Try.prog 67 #[.int .i64 room] w fun e w' => ∃ q, e = .returned (.pointer q) ∧ HN w' w.heap.size q room [] ∧ Below w.heap.size w w' := by
  by_cases hr : 1 ≤ room ∧ room ≤ 64
  · obtain ⟨R, rfl⟩ : ∃ R : Nat, room = R := ⟨room.toNat, by omega⟩
    exact (hist_new R (by omega) (by omega) w).mono fun e w' ⟨h, r, a, b, c⟩ => ⟨some ⟨h, 0, none⟩, a, .inr ⟨h, r, _, R, rfl, rfl, by omega, by omega, b⟩, c⟩
  · refine (hist_new_no room (by omega) w).mono ?_
    rintro e w' ⟨rfl, rfl⟩
    exact ⟨none, rfl, .inl ⟨rfl, rfl, hr⟩, Below.refl _ _⟩
theorem hn_list {w : World} {B : Nat} {q : Option Addr} {room : Int} {L : List Adv} (H : HN w B q room L) : Calls Try.prog 70 #[.pointer q] w fun e w' => ∃ p c, e = .returned (.slice p L.length c) ∧ Advs w' p L ∧ Below w.heap.size w w' := by
  rcases H with ⟨rfl, rfl, _⟩ | ⟨h, r, v, R, rfl, h2, h3, h4, h5⟩
  · exact (hist_list_nil w).mono fun e w' ⟨p, c, a, b⟩ => ⟨p, c, a, .inl rfl, b⟩
  · exact (hist_list h5).mono fun e w' ⟨p, c, a, _, b, d⟩ => ⟨p, c, a, b, d⟩
theorem hn_add {w : World} {B : Nat} {q : Option Addr} {room : Int} {L : List Adv} (H : HN w B q room L) (hB : B ≤ w.heap.size) (a : Adv) : Calls Try.prog 68 #[.pointer q, .agg #[.int .i64 a.tick, .int .i64 a.load, .int .i64 a.want, .int .i64 a.repl, .int .i64 a.why]] w fun e w' => ∃ b, e = .returned (.bool b) ∧
    HN w' B q room (if 1 ≤ room ∧ room ≤ 64 then Ring.next room.toNat L a else L) ∧ Turned (fun k => B ≤ k) w w' := by
  rcases H with ⟨rfl, rfl, hr⟩ | ⟨h, r, v, R, rfl, rfl, h3, h4, h5⟩
  · rw [if_neg hr]
    exact (hist_add_nil a w).mono fun e w' ⟨a, b⟩ => ⟨false, a, .inl ⟨rfl, rfl, hr⟩, ⟨b.os, b.tape, b.output, b.size, fun k hk _ => b.block k hk⟩⟩
  · rw [if_pos (by omega), Int.toNat_natCast]
    obtain ⟨f, ys, g1, g2⟩ := h5.ring
    refine (hist_add h5 hB a).mono fun e w' ⟨e1, v', h6, h7, _⟩ => ⟨true, e1, .inr ⟨h, r, v', R, rfl, rfl, h3, h4, h6⟩, ?_⟩
    exact ⟨h7.os, h7.tape, h7.output, h7.size, fun k hk hn => h7.block k hk (fun hs => hn (by
      rcases hs with hs | hs
      · rw [hs]; exact g1.low
      · exact (g1.owns.lt k hs).1))⟩
end Go.Proofs.Ytcanbagnehdbiaa

/- Layer 48: decisions seen one after another, up to the first that is not fine. -/
namespace Go.Proofs.Ytcanbagnehdbiaa
open Go.ChangeShapes Go.WideShapes Go.ChangeAt Go.RowKit

/-- The first of k from i that is not fine. -/
def Aud.look (ru : Nat → Int) : Nat → Nat → Int × Int
  | _, 0 => (-1, 0)
  | i, k + 1 => if ru i = 0 then Aud.look ru (i + 1) k else ((i : Int), ru i)
theorem Aud.look_fine {ru : Nat → Int} {i n : Nat} (h : i < n) (h0 : ru i = 0) : Aud.look ru i (n - i) = Aud.look ru (i + 1) (n - (i + 1)) := by
  rw [show n - i = (n - (i + 1)) + 1 by omega, Aud.look, if_pos h0]
theorem Aud.look_broken {ru : Nat → Int} {i n : Nat} (h : i < n) (h0 : ¬ ru i = 0) : Aud.look ru i (n - i) = ((i : Int), ru i) := by
  rw [show n - i = (n - (i + 1)) + 1 by omega, Aud.look, if_neg h0]
theorem Aud.look_end {ru : Nat → Int} {i n : Nat} (h : ¬ i < n) : Aud.look ru i (n - i) = (-1, 0) := by rw [show n - i = 0 by omega]; rfl
def Aud.at (p : Pol) (room : Int) (l : List Adv) (k : Nat) : Int := Aud.rule p (Aud.kept room l k) (l[k]?.getD default)

set_option maxHeartbeats 4000000 in
set_option maxRecDepth 100000 in
theorem each_check (p : Pol) (hp : p.In) (q : Option Addr) (cap : Nat) (l : List Adv) (hl : ∀ a ∈ l, a.In) (hb : l.length ≤ 1000) (room : Int) (w0 w : World) (hs : Advs w0 q l) (c1 c2 : Nat)
    (hM : Mem w0 w [(w0.heap.size, .cells #[.int .i64 p.mn, .int .i64 p.mx, .int .i64 p.tg, .int .i64 p.tl, .int .i64 p.wi, .int .i64 p.ho] 23), (c1, .cells #[.int .i64 (-1)] 3 (0, 0)), (c2, .cells #[.int .i64 0] 3 (0, 0))]) (x y : Int) (hxy : Aud.look (Aud.at p room l) 0 (l.length - 0) = (x, y)) :
    Calls Try.prog 62 #[.agg #[.int .i64 p.mn, .int .i64 p.mx, .int .i64 p.tg, .int .i64 p.tl, .int .i64 p.wi, .int .i64 p.ho], .slice q l.length cap, .int .i64 room, .func (.func 63) #[] #[.pointer (some ⟨c1, 0, none⟩), .pointer (some ⟨c2, 0, none⟩)]] w fun e w' => e = .returned (.tuple #[]) ∧
      Mem w0 w' [(w0.heap.size, .cells #[.int .i64 p.mn, .int .i64 p.mx, .int .i64 p.tg, .int .i64 p.tl, .int .i64 p.wi, .int .i64 p.ho] 23), (c1, .cells #[.int .i64 x] 3 (0, 0)), (c2, .cells #[.int .i64 y] 3 (0, 0))] := by
  have HS := Lib.hid hs
  have HIN := Lib.hid (Aud.kept_In room l hl)
  have HLE := Lib.hid (Aud.kept_len room l)
  have HKN := Lib.hid (fun k => show Aud.kept room l (k + 1) = if 1 ≤ room ∧ room ≤ 64 then Ring.next room.toNat (Aud.kept room l k) (l[k]?.getD default) else Aud.kept room l k from rfl)
  have HK0 : Hid (Aud.kept room l 0 = []) := rfl
  have HAT := Lib.hid (fun k => show Aud.at p room l k = Aud.rule p (Aud.kept room l k) (l[k]?.getD default) from rfl)
  have HLI := Lib.hid hl
  have HP := Lib.hid hp
  have HN0 := Lib.hid (hn_new room)
  have LT : Hid (w0.heap.size < w.heap.size ∧ c1 < w.heap.size ∧ c2 < w.heap.size) := ⟨hM.lt (i := 0) rfl, hM.lt (i := 1) rfl, hM.lt (i := 2) rfl⟩
  have M0 := Lib.hid (hM.alloc (.cells #[.int .i64 p.mn, .int .i64 p.mx, .int .i64 p.tg, .int .i64 p.tl, .int .i64 p.wi, .int .i64 p.ho] 23))
  obtain ⟨n, en⟩ : ∃ n, n = l.length := ⟨_, rfl⟩
  have EN := Lib.hid en
  rw [← en] at hb hxy ⊢
  obtain ⟨kp, ekp⟩ : ∃ kp, kp = Aud.kept room l := ⟨_, rfl⟩
  obtain ⟨ru, eru⟩ : ∃ ru, ru = Aud.at p room l := ⟨_, rfl⟩
  rw [← ekp] at HIN HLE HKN HK0
  simp only [← ekp] at HAT
  rw [← eru] at hxy HAT
  have HXY := Lib.hid hxy
  clear hs hl hp en ekp eru hM hxy
  go_enter Try.func62, Try.ntmps62
  go_wp2_with fail
  (with_reducible refine (HN0.out _).mono ?_)
  rintro e w1 ⟨qh, rfl, hh1, hb1⟩
  have M1 := Lib.hid (M0.out.call hb1)
  have H1 := Lib.hid hh1
  obtain ⟨B, eB⟩ : ∃ B, B = (w.alloc (.cells #[.int .i64 p.mn, .int .i64 p.mx, .int .i64 p.tg, .int .i64 p.tl, .int .i64 p.wi, .int .i64 p.ho] 23)).heap.size := ⟨_, rfl⟩
  rw [← eB] at H1
  have hB : B = w.heap.size + 1 := by rw [eB]; simp
  have HB := Lib.hid hB
  clear hb1 hh1 M0 eB hB
  go_wp2
  go_loopw [15] (fun i wr => ∃ k : Nat, k ≤ n ∧ i = .int .i64 (k : Nat) ∧ Aud.look ru k (n - k) = (x, y) ∧ HN wr B qh room (kp k) ∧ Mem w0 wr [(w0.heap.size, .cells #[.int .i64 p.mn, .int .i64 p.mx, .int .i64 p.tg, .int .i64 p.tl, .int .i64 p.wi, .int .i64 p.ho] 23), (c1, .cells #[.int .i64 (-1)] 3 (0, 0)), (c2, .cells #[.int .i64 0] 3 (0, 0)), (w.heap.size, .cells #[.int .i64 p.mn, .int .i64 p.mx, .int .i64 p.tg, .int .i64 p.tl, .int .i64 p.wi, .int .i64 p.ho] 23)]) (fun i _ => n - (intOf i).toNat)
  case atStart => exact ⟨0, by omega, rfl, HXY.out, by rw [HK0.out]; exact H1.out, M1.out⟩
  case round =>
    obtain ⟨k, hk, rfl, hlk, hH, hM⟩ := hrel
    by_cases hlt : k < n
    · have hkl : k < l.length := by have := EN.out; omega
      obtain ⟨b, off, rfl, hbw, _⟩ := HS.out.cells k hkl
      have hlin := HIN.out k (by omega)
      have hlle := HLE.out k
      have hkn := HKN.out k
      have hat := HAT.out k
      obtain ⟨c0, c1', c2', c3, c4⟩ := (HS.out.below hM.below).at k hkl
      have haI : (l[k]?.getD default).In := by rw [List.getElem?_eq_getElem hkl]; exact HLI.out _ (List.getElem_mem _)
      have HFI := Lib.hid (fun h : ru k = 0 => (Aud.look_fine hlt h).symm.trans hlk)
      have HBR := Lib.hid (fun h : ¬ ru k = 0 => (Aud.look_broken hlt h).symm.trans hlk)
      obtain ⟨a, ea⟩ : ∃ a, a = l[k]?.getD default := ⟨_, rfl⟩
      rw [← ea] at hkn hat haI c0 c1' c2' c3 c4
      obtain ⟨L, eL⟩ : ∃ L, L = kp k := ⟨_, rfl⟩
      rw [← eL] at hkn hlin hlle hat hH
      have hR := fun (p4 : Option Addr) (d4 : Nat) (W : World) (h : Advs W p4 L) => audit_rule p HP.out p4 d4 L (by omega) a haI W h
      rw [← hat] at hR
      obtain ⟨rl, erl⟩ : ∃ rl, rl = ru k := ⟨_, rfl⟩
      rw [← erl] at hR HFI HBR
      obtain ⟨m, em⟩ : ∃ m, m = L.length := ⟨_, rfl⟩
      simp only [← em] at hR
      have EM := Lib.hid em
      have HRU := Lib.hid hR
      have HKQ := Lib.hid hkn
      obtain ⟨tick, load, want, repl, why⟩ := a
      simp only at c0 c1' c2' c3 c4
      have M2 := Lib.hid (hM.alloc (.cells #[.int .i64 tick, .int .i64 load, .int .i64 want, .int .i64 repl, .int .i64 why] 56))
      have H2 := Lib.hid (hH.below (below1 wr (.cells #[.int .i64 tick, .int .i64 load, .int .i64 want, .int .i64 repl, .int .i64 why] 56)))
      have BW : Hid (B ≤ wr.heap.size) := by show _ ≤ _; have := hM.lt (i := 3) rfl; have := HB.out; omega
      clear hlk hH hM hR hkn hat ea eL erl em hlin haI hlle hkl HIN HLE HKN HLI HAT H1 M1 HXY
      go_wp2_with fail
      obtain ⟨Y, hY⟩ : ∃ Y, wr.heap.size = Y := ⟨_, rfl⟩
      rw [hY] at M2 ⊢
      have hst := stab_and (stab_mem (w := w0) (bs := [(w0.heap.size, .cells #[.int .i64 p.mn, .int .i64 p.mx, .int .i64 p.tg, .int .i64 p.tl, .int .i64 p.wi, .int .i64 p.ho] 23), (c1, .cells #[.int .i64 (-1)] 3 (0, 0)), (c2, .cells #[.int .i64 0] 3 (0, 0)), (w.heap.size, .cells #[.int .i64 p.mn, .int .i64 p.mx, .int .i64 p.tg, .int .i64 p.tl, .int .i64 p.wi, .int .i64 p.ho] 23), (Y, .cells #[.int .i64 tick, .int .i64 load, .int .i64 want, .int .i64 repl, .int .i64 why] 56)])) (stab_hn (B := B) (q := qh) (room := room) (L := L))
      have START := Lib.hid (And.intro (M2.out.drewN 1) (H2.out.below (below_drew (Below.refl _ _))))
      clear M2 H2 c0 c1' c2' c3 c4 hY
      by_cases hr : rl = 0
      · subst hr
        have HNX := Lib.hid (HFI.out rfl)
        clear HFI HBR
        refine wp_region_E mixed [] hst START.out ?_
        refine wpAnyE_take 0 rfl (by kernel_rfl) (by kernel_rfl) (by kernel_rfl) (fun _ _ _ h => h) hst (EffB.pure rfl (fun _ => rfl)) (.inr (EffB.pure rfl (fun _ => rfl))) ?_
        simp only [act_norm]
        refine wpAnyE_take 1 rfl (by kernel_rfl) (by kernel_rfl) (by kernel_rfl) (fun _ _ _ h => h) hst (EffB.pure rfl (fun _ => rfl)) (.inr (EffB.pure rfl (fun _ => rfl))) ?_
        simp only [act_norm]
        refine wpAnyE_take 2 (v := .agg #[.int .i64 p.mn, .int .i64 p.mx, .int .i64 p.tg, .int .i64 p.tl, .int .i64 p.wi, .int .i64 p.ho]) rfl (by kernel_rfl) (by kernel_rfl) (by kernel_rfl) (fun _ _ _ h => h) hst (EffB.run rfl rfl (fun wd hS => ?_)) (.inl (by kernel_rfl)) ?_
        · exact wp_load_row 23 _ rfl (w.heap.size) rfl 23 #[.int .i64 p.mn, .int .i64 p.mx, .int .i64 p.tg, .int .i64 p.tl, .int .i64 p.wi, .int .i64 p.ho] (0, 0) _ (hS.1.heap 3 rfl) Try.underlying23 rfl (by kernel_rfl) ⟨rfl, Below.refl _ _⟩
        simp only [act_norm]
        refine wpAnyE_take 3 rfl (by kernel_rfl) (by kernel_rfl) (by kernel_rfl) (fun _ _ _ h => h) hst (EffB.pure rfl (fun _ => rfl)) (.inr (EffB.pure rfl (fun _ => rfl))) ?_
        simp only [act_norm]
        refine wpAnyE_take 5 (v := .agg #[.int .i64 tick, .int .i64 load, .int .i64 want, .int .i64 repl, .int .i64 why]) rfl (by kernel_rfl) (by kernel_rfl) (by kernel_rfl) (fun _ _ _ h => h) hst (EffB.run rfl rfl (fun wd hS => ?_)) (.inl (by kernel_rfl)) ?_
        · exact wp_load_row 56 _ rfl (Y) rfl 56 #[.int .i64 tick, .int .i64 load, .int .i64 want, .int .i64 repl, .int .i64 why] (0, 0) _ (hS.1.heap 4 rfl) Try.underlying56 rfl (by kernel_rfl) ⟨rfl, Below.refl _ _⟩
        simp only [act_norm]
        refine wpAnyE_one 4 rfl (by kernel_rfl) rfl (fun wd hS => ?_)
        have P4 := hn_list hS.2
        simp only [← EM.out] at P4
        go_wp2_with fail
        (with_reducible refine P4.mono ?_)
        rintro e w4 ⟨p4, d4, rfl, hA, hb4⟩
        have hst2 := stab_and hst (stab_advs (q := p4) (l := L))
        refine ⟨_, ⟨hst _ _ hS hb4, hA⟩, hst2, (by first | exact fun _ h => h.1 | exact .inr fun _ h => h.1), ?_⟩
        try simp only [act_norm]
        clear hA hb4 hS hst P4
        have hst := hst2
        clear hst2
        refine wpAnyE_take 6 (v := .int .i64 0) rfl (by kernel_rfl) (by kernel_rfl) (by kernel_rfl) (fun _ _ _ h => h) hst (EffB.run rfl rfl (fun wd hS => ?_)) (.inl (by kernel_rfl)) ?_
        · (go_wp2_with fail; (with_reducible refine (HRU.out p4 d4 wd hS.2).mono ?_); rintro e w'' ⟨rfl, hb⟩; exact ⟨rfl, hb⟩)
        simp only [act_norm]
        refine wpAnyE_take 7 (v := .bool true) rfl (by kernel_rfl) (by kernel_rfl) (by kernel_rfl) (fun _ _ _ h => h) hst (EffB.run rfl rfl (fun wd hS => ?_)) (.inl (by kernel_rfl)) ?_
        · (go_wp2_with fail; (with_reducible refine (see_check_fine k c1 c2 wd).mono ?_); rintro e w'' ⟨rfl, rfl⟩; exact ⟨rfl, Below.refl _ _⟩)
        simp only [act_norm]
        refine wpAnyE_take 8 (v := .bool false) rfl (by kernel_rfl) (by kernel_rfl) (by kernel_rfl) (fun _ _ _ h => h) hst (EffB.run rfl rfl (fun wd hS => ?_)) (.inr (EffB.run rfl rfl (fun wd hS => ?_))) ?_
        · (go_wp2; exact ⟨rfl, Below.refl _ _⟩)
        · (go_wp2; exact ⟨rfl, Below.refl _ _⟩)
        simp only [act_norm]
        refine wpAnyE_done (by kernel_rfl) (fun wd hS => ?_) _
        have MF := Lib.hid hS.1.1
        have KF := Lib.hid (hS.1.1.heap 4 rfl)
        have P7 := Lib.hid (hn_add hS.1.2 (by have := hS.1.1.lt (i := 3) rfl; have := HB.out; omega) ⟨tick, load, want, repl, why⟩)
        clear hS hst
        go_wp2_with ((with_reducible refine wpList_load_rowAs rfl 56 _ rfl (Y) ?_ 56 #[.int .i64 tick, .int .i64 load, .int .i64 want, .int .i64 repl, .int .i64 why] (0, 0) _ 5 ?_ Try.underlying56 rfl (by kernel_rfl) ?_ ?_); exact rfl; exact KF.out; exact rfl)
        (with_reducible refine P7.out.mono ?_)
        rintro e w7 ⟨b7, rfl, h7, t7⟩
        have H7 := Lib.hid h7
        have M7 : Hid (Mem w0 w7 [(w0.heap.size, .cells #[.int .i64 p.mn, .int .i64 p.mx, .int .i64 p.tg, .int .i64 p.tl, .int .i64 p.wi, .int .i64 p.ho] 23), (c1, .cells #[.int .i64 (-1)] 3 (0, 0)), (c2, .cells #[.int .i64 0] 3 (0, 0)), (w.heap.size, .cells #[.int .i64 p.mn, .int .i64 p.mx, .int .i64 p.tg, .int .i64 p.tl, .int .i64 p.wi, .int .i64 p.ho] 23)]) := (MF.out.init).turnedF t7 (fun k' hk' => ⟨by have := LT.out.1; have := HB.out; omega, fun i o hi => by
          have := LT.out; have := HB.out
          match i, hi with
          | 0, hi => simp at hi; omega
          | 1, hi => simp at hi; omega
          | 2, hi => simp at hi; omega
          | 3, hi => simp at hi; omega
          | i + 4, hi => simp at hi⟩)
        clear h7 t7 P7 KF MF
        go_wp2
        exact ⟨⟨k + 1, by omega, by go_num, HNX.out, by rw [HKQ.out]; exact H7.out, M7.out⟩, by simp [intOf]; omega⟩
      · have hbr := HBR.out hr
        obtain ⟨rfl, rfl⟩ : (k : Int) = x ∧ rl = y := by simpa using hbr
        clear HFI HBR hbr
        refine wp_region_E mixed [7] hst START.out ?_
        refine wpAnyE_take 0 rfl (by kernel_rfl) (by kernel_rfl) (by kernel_rfl) (fun _ _ _ h => h) hst (EffB.pure rfl (fun _ => rfl)) (.inr (EffB.pure rfl (fun _ => rfl))) ?_
        simp only [act_norm]
        refine wpAnyE_take 1 rfl (by kernel_rfl) (by kernel_rfl) (by kernel_rfl) (fun _ _ _ h => h) hst (EffB.pure rfl (fun _ => rfl)) (.inr (EffB.pure rfl (fun _ => rfl))) ?_
        simp only [act_norm]
        refine wpAnyE_take 2 (v := .agg #[.int .i64 p.mn, .int .i64 p.mx, .int .i64 p.tg, .int .i64 p.tl, .int .i64 p.wi, .int .i64 p.ho]) rfl (by kernel_rfl) (by kernel_rfl) (by kernel_rfl) (fun _ _ _ h => h) hst (EffB.run rfl rfl (fun wd hS => ?_)) (.inl (by kernel_rfl)) ?_
        · exact wp_load_row 23 _ rfl (w.heap.size) rfl 23 #[.int .i64 p.mn, .int .i64 p.mx, .int .i64 p.tg, .int .i64 p.tl, .int .i64 p.wi, .int .i64 p.ho] (0, 0) _ (hS.1.heap 3 rfl) Try.underlying23 rfl (by kernel_rfl) ⟨rfl, Below.refl _ _⟩
        simp only [act_norm]
        refine wpAnyE_take 3 rfl (by kernel_rfl) (by kernel_rfl) (by kernel_rfl) (fun _ _ _ h => h) hst (EffB.pure rfl (fun _ => rfl)) (.inr (EffB.pure rfl (fun _ => rfl))) ?_
        simp only [act_norm]
        refine wpAnyE_take 5 (v := .agg #[.int .i64 tick, .int .i64 load, .int .i64 want, .int .i64 repl, .int .i64 why]) rfl (by kernel_rfl) (by kernel_rfl) (by kernel_rfl) (fun _ _ _ h => h) hst (EffB.run rfl rfl (fun wd hS => ?_)) (.inl (by kernel_rfl)) ?_
        · exact wp_load_row 56 _ rfl (Y) rfl 56 #[.int .i64 tick, .int .i64 load, .int .i64 want, .int .i64 repl, .int .i64 why] (0, 0) _ (hS.1.heap 4 rfl) Try.underlying56 rfl (by kernel_rfl) ⟨rfl, Below.refl _ _⟩
        simp only [act_norm]
        refine wpAnyE_one 4 rfl (by kernel_rfl) rfl (fun wd hS => ?_)
        have P4 := hn_list hS.2
        simp only [← EM.out] at P4
        go_wp2_with fail
        (with_reducible refine P4.mono ?_)
        rintro e w4 ⟨p4, d4, rfl, hA, hb4⟩
        have hst2 := stab_and hst (stab_advs (q := p4) (l := L))
        refine ⟨_, ⟨hst _ _ hS hb4, hA⟩, hst2, (by first | exact fun _ h => h.1 | exact .inr fun _ h => h.1), ?_⟩
        try simp only [act_norm]
        clear hA hb4 hS hst P4
        have hst := hst2
        clear hst2
        refine wpAnyE_take 6 (v := .int .i64 rl) rfl (by kernel_rfl) (by kernel_rfl) (by kernel_rfl) (fun _ _ _ h => h) hst (EffB.run rfl rfl (fun wd hS => ?_)) (.inl (by kernel_rfl)) ?_
        · (go_wp2_with fail; (with_reducible refine (HRU.out p4 d4 wd hS.2).mono ?_); rintro e w'' ⟨rfl, hb⟩; exact ⟨rfl, hb⟩)
        simp only [act_norm]
        refine wpAnyE_one 7 rfl (by kernel_rfl) rfl (fun wd hS => ?_)
        have P7 := Lib.hid (see_check_broken k rl hr c1 c2 (-1) 0 w0 wd _ _ hS.1.1)
        go_wp2_with fail
        (with_reducible refine P7.out.mono ?_)
        rintro e w7 ⟨rfl, hM7, _⟩
        refine ⟨_, hM7, stab_mem, ?_⟩
        try simp only [act_norm]
        clear hS P7 hM7 hst
        have hst := stab_mem (w := w0) (bs := [(w0.heap.size, .cells #[.int .i64 p.mn, .int .i64 p.mx, .int .i64 p.tg, .int .i64 p.tl, .int .i64 p.wi, .int .i64 p.ho] 23), (c1, .cells #[.int .i64 k] 3 (0, 0)), (c2, .cells #[.int .i64 rl] 3 (0, 0)), (w.heap.size, .cells #[.int .i64 p.mn, .int .i64 p.mx, .int .i64 p.tg, .int .i64 p.tl, .int .i64 p.wi, .int .i64 p.ho] 23), (Y, .cells #[.int .i64 tick, .int .i64 load, .int .i64 want, .int .i64 repl, .int .i64 why] 56)])
        refine wpAnyE_take 8 (v := .bool true) rfl (by kernel_rfl) (by kernel_rfl) (by kernel_rfl) (fun _ _ _ h => h) hst (EffB.run rfl rfl (fun wd hS => ?_)) (.inr (EffB.run rfl rfl (fun wd hS => ?_))) ?_
        · (go_wp2; exact ⟨rfl, Below.refl _ _⟩)
        · (go_wp2; exact ⟨rfl, Below.refl _ _⟩)
        simp only [act_norm]
        refine wpAnyE_done (by kernel_rfl) (fun wd hS => ?_) _
        have MF := Lib.hid hS
        clear hS hst
        go_wp2
        refine bodyPost_ret (results_none rfl _ _ _) rfl ?_
        exact ⟨rfl, MF.out.init⟩
    · obtain rfl : k = n := by omega
      have hend := (Aud.look_end hlt).symm.trans hlk
      obtain ⟨rfl, rfl⟩ : (-1 : Int) = x ∧ (0 : Int) = y := by simpa using hend
      have M2 := Lib.hid hM
      clear hlk hH hM hend HXY
      go_wp2
      go_end0
      exact ⟨rfl, M2.out.init⟩
end Go.Proofs.Ytcanbagnehdbiaa

/- Layer 48: the first decision that is not fine. -/
namespace Go.Proofs.Ytcanbagnehdbiaa
open Go.ChangeShapes Go.WideShapes Go.ChangeAt Go.RowKit

set_option maxHeartbeats 1000000 in
set_option maxRecDepth 100000 in
theorem audit_check (p : Pol) (hp : p.In) (q : Option Addr) (cap : Nat) (l : List Adv) (hl : ∀ a ∈ l, a.In) (hb : l.length ≤ 1000) (room : Int) (w : World) (hs : Advs w q l) (x y : Int) (hxy : Aud.look (Aud.at p room l) 0 (l.length - 0) = (x, y)) :
    Calls Try.prog 16 #[.agg #[.int .i64 p.mn, .int .i64 p.mx, .int .i64 p.tg, .int .i64 p.tl, .int .i64 p.wi, .int .i64 p.ho], .slice q l.length cap, .int .i64 room] w fun e w' => e = .returned (.tuple #[.int .i64 x, .int .i64 y]) ∧ Below w.heap.size w w' := by
  have M0 : Hid (Mem w (((w.alloc (.cells #[.int .i64 p.mn, .int .i64 p.mx, .int .i64 p.tg, .int .i64 p.tl, .int .i64 p.wi, .int .i64 p.ho] 23)).alloc (.cells #[.int .i64 (-1)] 3)).alloc (.cells #[.int .i64 0] 3)) [(w.heap.size, .cells #[.int .i64 p.mn, .int .i64 p.mx, .int .i64 p.tg, .int .i64 p.tl, .int .i64 p.wi, .int .i64 p.ho] 23), (w.heap.size + 1, .cells #[.int .i64 (-1)] 3 (0, 0)), (w.heap.size + 2, .cells #[.int .i64 0] 3 (0, 0))]) := (((Mem.start w).alloc _).allocAs (w.heap.size + 1) _ (by simp)).allocAs (w.heap.size + 2) _ (by simp)
  have K0 := Lib.hid (M0.out.heap 0 rfl)
  have E1 := Lib.hid (each_check p hp q cap l hl hb room w _ hs (w.heap.size + 1) (w.heap.size + 2) M0.out x y hxy)
  obtain ⟨n, en⟩ : ∃ n, n = l.length := ⟨_, rfl⟩
  rw [← en] at E1 ⊢
  clear hp hl hb hs hxy en
  go_enter Try.func16, Try.ntmps16
  go_wp2_with ((with_reducible refine wpList_load_rowAs rfl 23 _ rfl (w.heap.size) ?_ 23 #[.int .i64 p.mn, .int .i64 p.mx, .int .i64 p.tg, .int .i64 p.tl, .int .i64 p.wi, .int .i64 p.ho] (0, 0) _ 6 ?_ Try.underlying23 rfl (by kernel_rfl) ?_ ?_); exact rfl; exact K0.out; exact rfl)
  (with_reducible refine E1.out.mono ?_)
  rintro e w1 ⟨rfl, hM1⟩
  have M1 := Lib.hid hM1
  clear hM1 E1 M0 K0
  go_wp2_with fail
  have hst := stab_mem (w := w) (bs := [(w.heap.size, .cells #[.int .i64 p.mn, .int .i64 p.mx, .int .i64 p.tg, .int .i64 p.tl, .int .i64 p.wi, .int .i64 p.ho] 23), (w.heap.size + 1, .cells #[.int .i64 x] 3 (0, 0)), (w.heap.size + 2, .cells #[.int .i64 y] 3 (0, 0))])
  refine wp_region_E mixed [] hst (M1.out.drewN 1) ?_
  refine wpAnyE_take 0 (v := .int .i64 x) rfl (by kernel_rfl) (by kernel_rfl) (by kernel_rfl) (fun _ _ _ h => h) hst (EffB.run rfl rfl (fun wd hS => ?_)) (.inl (by kernel_rfl)) ?_
  · have c0 := hS.cell 1 0 rfl rfl; go_wp2; exact ⟨rfl, Below.refl _ _⟩
  simp only [act_norm]
  refine wpAnyE_take 1 (v := .int .i64 y) rfl (by kernel_rfl) (by kernel_rfl) (by kernel_rfl) (fun _ _ _ h => h) hst (EffB.run rfl rfl (fun wd hS => ?_)) (.inl (by kernel_rfl)) ?_
  · have c0 := hS.cell 2 0 rfl rfl; go_wp2; exact ⟨rfl, Below.refl _ _⟩
  simp only [act_norm]
  refine wpAnyE_take 2 rfl (by kernel_rfl) (by kernel_rfl) (by kernel_rfl) (fun _ _ _ h => h) hst (EffB.pure rfl (fun _ => rfl)) (.inr (EffB.pure rfl (fun _ => rfl))) ?_
  simp only [act_norm]
  refine wpAnyE_take 3 rfl (by kernel_rfl) (by kernel_rfl) (by kernel_rfl) (fun _ _ _ h => h) hst (EffB.pure rfl (fun _ => rfl)) (.inr (EffB.pure rfl (fun _ => rfl))) ?_
  simp only [act_norm]
  refine wpAnyE_done (by kernel_rfl) (fun wd hS => ?_) _
  have MF := Lib.hid hS
  clear hS hst
  go_wp2
  exact bodyPost_ret (results_tmp2 rfl _ _ _) rfl ⟨rfl, MF.out.below⟩
end Go.Proofs.Ytcanbagnehdbiaa
