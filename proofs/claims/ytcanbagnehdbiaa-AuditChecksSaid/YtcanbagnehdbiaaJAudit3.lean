/- Layer 48: the rules that decisions break, one after another, by the reference. -/
import Derived.Test.YtcanbagnehdbiaaJAudit2
import Derived.Test.YtcanbagnehdbiaaJLaws14c
import Derived.Test.YtcanbagnehdbiaaJRingA
import Derived.Test.YtcanbagnehdbiaaJFol3
namespace Go.Proofs.Ytcanbagnehdbiaa
open Go.ChangeShapes Go.WideShapes Go.ChangeAt Go.RowKit

/-- What is kept of the first k. -/
def Aud.kept (room : Int) (l : List Adv) : Nat → List Adv
  | 0 => []
  | k + 1 => if 1 ≤ room ∧ room ≤ 64 then Ring.next room.toNat (Aud.kept room l k) (l[k]?.getD default) else Aud.kept room l k
/-- The rules of the first k. -/
def Aud.rules (p : Pol) (room : Int) (l : List Adv) : Nat → List Int
  | 0 => []
  | k + 1 => Aud.rules p room l k ++ [Aud.rule p (Aud.kept room l k) (l[k]?.getD default)]
theorem Aud.rules_len (p : Pol) (room : Int) (l : List Adv) : ∀ k, (Aud.rules p room l k).length = k
  | 0 => rfl
  | k + 1 => by unfold Aud.rules; rw [List.length_append, Aud.rules_len p room l k]; rfl
theorem Aud.kept_len (room : Int) (l : List Adv) : ∀ k, (Aud.kept room l k).length ≤ 64
  | 0 => by simp [Aud.kept]
  | k + 1 => by
    have ih := Aud.kept_len room l k
    unfold Aud.kept
    split
    · rename_i h
      have h2 : (Aud.kept room l k).length ≤ room.toNat ∨ room.toNat ≤ (Aud.kept room l k).length := by omega
      unfold Ring.next
      split
      · simp; omega
      · simp; omega
    · exact ih
theorem Aud.kept_room {room : Int} (hr : 1 ≤ room ∧ room ≤ 64) (l : List Adv) : ∀ k, (Aud.kept room l k).length ≤ room.toNat
  | 0 => by simp [Aud.kept]
  | k + 1 => by
    have ih := Aud.kept_room hr l k
    unfold Aud.kept
    rw [if_pos hr]
    have := Ring.next_len ih (l[k]?.getD default)
    omega
theorem Aud.kept_In (room : Int) (l : List Adv) (hl : ∀ a ∈ l, a.In) : ∀ k, k ≤ l.length → ∀ a ∈ Aud.kept room l k, a.In
  | 0, _ => by simp [Aud.kept]
  | k + 1, hk => by
    have ih := Aud.kept_In room l hl k (by omega)
    unfold Aud.kept
    split
    · intro a ha
      rcases Ring.next_mem ha with h | h
      · exact ih a h
      · rw [h, List.getElem?_eq_getElem (by omega)]; exact hl _ (List.getElem_mem _)
    · exact ih

theorem stab_ge {n : Nat} : Stab (fun w' : World => n ≤ w'.heap.size) := fun _ _ h hb => Nat.le_trans h hb.size

set_option maxHeartbeats 4000000 in
set_option maxRecDepth 100000 in
theorem ref48_rules (p : Pol) (hp : p.In) (q : Option Addr) (cap : Nat) (l : List Adv) (hl : ∀ a ∈ l, a.In) (hb : l.length ≤ 1000) (room : Int) (w : World) (hs : Advs w q l) :
    Calls Try.prog 17 #[.agg #[.int .i64 p.mn, .int .i64 p.mx, .int .i64 p.tg, .int .i64 p.tl, .int .i64 p.wi, .int .i64 p.ho], .slice q l.length cap, .int .i64 room] w fun e w' => ∃ u, e = .returned u ∧ Owns w' w.heap.size 1 u l.length (intVals (Aud.rules p room l l.length)) ∧ Below w.heap.size w w' := by
  have HS := Lib.hid hs
  have HIN := Lib.hid (Aud.kept_In room l hl)
  have HLE := Lib.hid (Aud.kept_len room l)
  have HRM := Lib.hid (fun hr : 1 ≤ room ∧ room ≤ 64 => Aud.kept_room hr l)
  have HKN := Lib.hid (fun k => show Aud.kept room l (k + 1) = if 1 ≤ room ∧ room ≤ 64 then Ring.next room.toNat (Aud.kept room l k) (l[k]?.getD default) else Aud.kept room l k from rfl)
  have HRN := Lib.hid (fun k => show Aud.rules p room l (k + 1) = Aud.rules p room l k ++ [Aud.rule p (Aud.kept room l k) (l[k]?.getD default)] from rfl)
  have HRL := Lib.hid (Aud.rules_len p room l)
  have HLI := Lib.hid hl
  have HP := Lib.hid hp
  obtain ⟨n, en⟩ : ∃ n, n = l.length := ⟨_, rfl⟩
  have EN := Lib.hid en
  rw [← en] at hb ⊢
  obtain ⟨W0, hW0⟩ : ∃ W, W = w.alloc (.cells #[.int .i64 p.mn, .int .i64 p.mx, .int .i64 p.tg, .int .i64 p.tl, .int .i64 p.wi, .int .i64 p.ho] 23) := ⟨_, rfl⟩
  have M0 : Hid (Mem w W0 [(w.heap.size, .cells #[.int .i64 p.mn, .int .i64 p.mx, .int .i64 p.tg, .int .i64 p.tl, .int .i64 p.wi, .int .i64 p.ho] 23)]) := by show Mem _ _ _; rw [hW0]; exact (Mem.start w).alloc _
  have hW0s : Hid (W0.heap.size = w.heap.size + 1) := by show _ = _; rw [hW0]; simp
  have HK0 : Hid (Aud.kept room l 0 = []) := rfl
  have HR0 : Hid (Aud.rules p room l 0 = []) := rfl
  obtain ⟨kp, ekp⟩ : ∃ kp, kp = Aud.kept room l := ⟨_, rfl⟩
  obtain ⟨ru, eru⟩ : ∃ ru, ru = Aud.rules p room l := ⟨_, rfl⟩
  rw [← ekp] at HIN HLE HKN HRN HK0
  simp only [← ekp] at HRM
  rw [← eru] at HRN HRL HR0 ⊢
  clear hs hl hp en ekp eru
  go_enter Try.func17, Try.ntmps17
  go_upto_region 1 with fail
  rw [← hW0]
  clear hW0
  go_wp2
  go_loopw [7, 8, 9] (fun uo pa i wr => ∃ (k : Nat) (qp : Option Addr) (cp : Nat), k ≤ n ∧ i = .int .i64 (k : Nat) ∧ pa = .slice qp (kp k).length cp ∧ Advs wr qp (kp k) ∧ (qp = none → (kp k).length = 0 ∧ cp = 0) ∧ Owns wr W0.heap.size 1 uo k (intVals (ru k)) ∧ (∀ ad, qp = some ad → uo.ownBlock ≠ some ad.block) ∧ (∀ ad, qp = some ad → ad.block < wr.heap.size) ∧ Mem w wr [(w.heap.size, .cells #[.int .i64 p.mn, .int .i64 p.mx, .int .i64 p.tg, .int .i64 p.tl, .int .i64 p.wi, .int .i64 p.ho] 23)]) (fun _ _ i _ => n - (intOf i).toNat)
  case atStart => exact ⟨0, none, 0, by omega, rfl, by rw [HK0.out]; rfl, by rw [HK0.out]; exact .inl rfl, fun _ => ⟨by rw [HK0.out]; rfl, rfl⟩, by rw [HR0.out]; exact owns_nil _ _ _, fun _ h => (by cases h), fun _ h => (by cases h), M0.out⟩
  case round =>
    obtain ⟨k, qp, cp, hk, rfl, rfl, hpa, hqn, hO, hx1, hx2, hM⟩ := hrel
    by_cases hlt : k < n
    · have hkl : k < l.length := by have := EN.out; omega
      obtain ⟨b, off, rfl, hbw, _⟩ := HS.out.cells k hkl
      have hlin := HIN.out k (by omega)
      have hlle := HLE.out k
      have hkn := HKN.out k
      have hrn := HRN.out k
      have hroom := fun h => HRM.out h k
      have CC0 := fun (W : World) (h : Below w.heap.size w W) => (HS.out.below h).at k hkl
      have haI : (l[k]?.getD default).In := by rw [List.getElem?_eq_getElem hkl]; exact HLI.out _ (List.getElem_mem _)
      obtain ⟨a, ea⟩ : ∃ a, a = l[k]?.getD default := ⟨_, rfl⟩
      rw [← ea] at hkn hrn haI
      simp only [← ea] at CC0
      obtain ⟨L, eL⟩ : ∃ L, L = kp k := ⟨_, rfl⟩
      rw [← eL] at hkn hrn hlin hlle hpa hqn
      simp only [← eL] at hroom
      rw [← eL]
      obtain ⟨xs, exs⟩ : ∃ xs, xs = ru k := ⟨_, rfl⟩
      rw [← exs] at hrn hO
      have hR := fun (W : World) (h : Advs W qp L) => ref48_rule p HP.out qp cp L (by omega) a haI W h
      obtain ⟨rl, erl⟩ : ∃ rl, rl = Aud.rule p L a := ⟨_, rfl⟩
      simp only [← erl] at hR
      rw [← erl] at hrn
      obtain ⟨m, em⟩ : ∃ m, m = L.length := ⟨_, rfl⟩
      have EM := Lib.hid em
      simp only [← em] at hR hqn hlle ⊢
      simp only [← em] at hroom
      have HRU := Lib.hid hR
      have CC := Lib.hid CC0
      have HKQ := Lib.hid hkn
      have HRQ := Lib.hid hrn
      have HROOM := Lib.hid hroom
      have QN := Lib.hid hqn
      have X1 := Lib.hid hx1
      have X2 := Lib.hid hx2
      have hk0 : (0 : Int) ≤ (k : Int) := by omega
      have hkn' : (k : Int) < (n : Int) := by omega
      have hst := stab_and (stab_and (stab_mem (w := w) (bs := [(w.heap.size, .cells #[.int .i64 p.mn, .int .i64 p.mx, .int .i64 p.tg, .int .i64 p.tl, .int .i64 p.wi, .int .i64 p.ho] 23)])) (stab_advs (q := qp) (l := L))) (stab_and (stab_owns (B := W0.heap.size) (sz := 1) (v := u7) (n := k) (xs := intVals xs)) (stab_ge (n := wr.heap.size)))
      have START := Lib.hid (And.intro (And.intro (hM.drewN 1) (hpa.below (below_drew (Below.refl _ _)))) (And.intro (hO.below (below_drew (Below.refl _ _))) (show wr.heap.size ≤ (wr.drew).heap.size from Nat.le_refl _)))
      obtain ⟨tick, load, want, repl, why⟩ := a
      simp only at CC
      clear hM hpa hO hqn hx1 hx2 hR CC0 hkn hrn hroom ea eL exs erl em hlin haI hkl HIN HLE HKN HRN HRM HLI
      go_wp2_with fail
      refine wp_region_E mixed [9] hst START.out ?_
      refine wpAnyE_take 0 rfl (by kernel_rfl) (by kernel_rfl) (by kernel_rfl) (fun _ _ _ h => h) hst (EffB.pure rfl (fun _ => rfl)) (.inr (EffB.pure rfl (fun _ => rfl))) ?_
      simp only [act_norm]
      refine wpAnyE_take 1 (v := .agg #[.int .i64 p.mn, .int .i64 p.mx, .int .i64 p.tg, .int .i64 p.tl, .int .i64 p.wi, .int .i64 p.ho]) rfl (by kernel_rfl) (by kernel_rfl) (by kernel_rfl) (fun _ _ _ h => h) hst (EffB.run rfl rfl (fun wd hS => ?_)) (.inl (by kernel_rfl)) ?_
      · exact wp_load_row 23 _ rfl (w.heap.size) rfl 23 #[.int .i64 p.mn, .int .i64 p.mx, .int .i64 p.tg, .int .i64 p.tl, .int .i64 p.wi, .int .i64 p.ho] (0, 0) _ (hS.1.1.heap 0 rfl) Try.underlying23 rfl (by kernel_rfl) ⟨rfl, Below.refl _ _⟩
      simp only [act_norm]
      refine wpAnyE_take 2 rfl (by kernel_rfl) (by kernel_rfl) (by kernel_rfl) (fun _ _ _ h => h) hst (EffB.pure rfl (fun _ => rfl)) (.inr (EffB.pure rfl (fun _ => rfl))) ?_
      simp only [act_norm]
      refine wpAnyE_take 3 rfl (by kernel_rfl) (by kernel_rfl) (by kernel_rfl) (fun _ _ _ h => h) hst (EffB.pure rfl (fun _ => rfl)) (.inr (EffB.pure rfl (fun _ => rfl))) ?_
      simp only [act_norm]
      refine wpAnyE_take 4 rfl (by kernel_rfl) (by kernel_rfl) (by kernel_rfl) (fun _ _ _ h => h) hst (EffB.pure rfl (fun _ => rfl)) (.inr (EffB.pure rfl (fun _ => rfl))) ?_
      simp only [act_norm]
      refine wpAnyE_take 5 (v := .pointer (some ⟨b, off + k * 5, none⟩)) rfl (by kernel_rfl) (by kernel_rfl) (by kernel_rfl) (fun _ _ _ h => h) hst (EffB.run rfl rfl (fun wd hS => ?_)) (.inr (EffB.run rfl rfl (fun wd hS => ?_))) ?_
      · (go_wp2; exact ⟨rfl, Below.refl _ _⟩)
      · (go_wp2; exact ⟨rfl, Below.refl _ _⟩)
      simp only [act_norm]
      refine wpAnyE_take 6 (v := .agg #[.int .i64 tick, .int .i64 load, .int .i64 want, .int .i64 repl, .int .i64 why]) rfl (by kernel_rfl) (by kernel_rfl) (by kernel_rfl) (fun _ _ _ h => h) hst (EffB.run rfl rfl (fun wd hS => ?_)) (.inl (by kernel_rfl)) ?_
      · obtain ⟨c0, c1, c2, c3, c4⟩ := CC.out wd hS.1.1.below; go_wp2; exact ⟨rfl, Below.refl _ _⟩
      simp only [act_norm]
      refine wpAnyE_take 7 (v := .int .i64 rl) rfl (by kernel_rfl) (by kernel_rfl) (by kernel_rfl) (fun _ _ _ h => h) hst (EffB.run rfl rfl (fun wd hS => ?_)) (.inl (by kernel_rfl)) ?_
      · (go_wp2_with fail; (with_reducible refine (HRU.out wd hS.1.2).mono ?_); rintro e w'' ⟨rfl, hb⟩; exact ⟨rfl, hb⟩)
      simp only [act_norm]
      refine wpAnyE_one 8 rfl (by kernel_rfl) rfl (fun wd hS => ?_)
      have hstN := stab_and hst (stab_heap wd.heap.size (.cells #[.int .i64 rl] 3 (0, 0)))
      have Y1 := Lib.hid (And.intro (hst _ _ hS (below1 wd (.cells #[.int .i64 rl] 3))) (heap_alloc_at wd (.cells #[.int .i64 rl] 3) wd.heap.size rfl))
      clear hS
      go_wp2
      refine ⟨_, Y1.out, hstN, (by first | exact fun _ h => h.1 | exact .inr fun _ h => h.1), ?_⟩
      obtain ⟨X, hX⟩ : ∃ X, wd.heap.size = X := ⟨_, rfl⟩
      rw [hX] at hstN ⊢
      clear Y1 hst hX
      try simp only [act_norm]
      have hst := hstN
      clear hstN
      refine wpAnyE_one 9 rfl (by kernel_rfl) rfl (fun wd hS => ?_)
      have cX : ∀ (j : Nat) (u : Value), [Value.int .i64 rl][j]? = some u → wd.cell? ⟨X, j, none⟩ = some u := fun j u hu => by
        rw [cell_of_row _ _ _ _ _ _ hS.2]
        simpa using hu
      refine wp_append_any2 _ _ 28 rfl W0.heap.size 3 (.int .i64 0) 1 8 Try.underlying28 intInfo rfl (by decide) u7 k (intVals xs) rfl hS.1.2.1 (some ⟨X, 0, none⟩) 1 1 [.int .i64 rl] rfl rfl (by simp) (fun ad had j u hu => by cases had; rw [Addr.add_mid, Nat.zero_add]; exact cX j u hu) (by intro u h; simp at h; subst h; rfl) (by unfold maxLen; omega) (by omega) (by have := hS.1.1.1.lt (i := 0) rfl; have := hW0s.out; omega) (fun u1 wx ha1 hg1 hw1 => ?_)
      have hT : Turned (fun k' => u7.ownBlock = some k') wd wx := Turned.refl.grown hg1 (fun k' hk _ => hk)
      have hM1 : Mem w wx [(w.heap.size, .cells #[.int .i64 p.mn, .int .i64 p.mx, .int .i64 p.tg, .int .i64 p.tl, .int .i64 p.wi, .int .i64 p.ho] 23)] := hS.1.1.1.folPut (B := W0.heap.size) (n := wd.heap.size) hT (fun k' hk => hS.1.2.1.lt k' hk) (by have := hW0s.out; omega) (by have := hW0s.out; omega) (fun i c o h => by simp at h)
      have hA1 : Advs wx qp L := Advs.turnedF hS.1.1.2 hT (fun ad had e => X1.out ad had e)
      have Z1 : Hid (∀ ad, qp = some ad → u1.ownBlock ≠ some ad.block) := fun ad had e => by
        rcases hw1 with h | h
        · exact X1.out ad had (h ▸ e)
        · have h1 := h _ e; have h2 := X2.out ad had; have h3 := hS.1.2.2; omega
      have hge : wr.heap.size ≤ wx.heap.size := Nat.le_trans hS.1.2.2 hT.size
      have hstN := stab_and (stab_and (stab_mem (w := w) (bs := [(w.heap.size, .cells #[.int .i64 p.mn, .int .i64 p.mx, .int .i64 p.tg, .int .i64 p.tl, .int .i64 p.wi, .int .i64 p.ho] 23)])) (stab_advs (q := qp) (l := L))) (stab_and (stab_owns (B := W0.heap.size) (sz := 1) (v := u1) (n := k + 1) (xs := intVals xs ++ [.int .i64 rl])) (stab_ge (n := wr.heap.size)))
      have Y2 := Lib.hid (And.intro (And.intro hM1 hA1) (And.intro ha1 hge))
      clear hS cX hT hM1 hA1 ha1 hg1 hw1 hst hge
      refine ⟨_, Y2.out, hstN, .inl (by decide), ?_⟩
      clear Y2
      try simp only [act_norm]
      have hst := hstN
      clear hstN
      refine wpAnyE_take 10 rfl (by kernel_rfl) (by kernel_rfl) (by kernel_rfl) (fun _ _ _ h => h) hst (EffB.pure rfl (fun _ => rfl)) (.inr (EffB.pure rfl (fun _ => rfl))) ?_
      simp only [act_norm]
      refine wpAnyE_done (by kernel_rfl) (fun wd hS => ?_) _
      have MF := Lib.hid hS.1.1
      have AF := Lib.hid hS.1.2
      have OF := Lib.hid hS.2.1
      have GE := Lib.hid hS.2.2
      clear hS hst
      by_cases hr : 1 ≤ room ∧ room ≤ 64
      · obtain ⟨R, rfl⟩ : ∃ R : Nat, room = R := ⟨room.toNat, by omega⟩
        have hke := HKQ.out
        rw [if_pos hr, Int.toNat_natCast] at hke
        have hpt := fun (W : World) (h : Advs W qp L) => ref14_put qp m cp L EM.out.symm (by omega) QN.out R ⟨tick, load, want, repl, why⟩ W h
        have hml : L.length ≤ R := by have := HROOM.out hr; have := EM.out; omega
        rw [Adv.put_next (by omega) hml] at hpt
        have HPT := Lib.hid hpt
        have HKE := Lib.hid hke
        have e1 : decide ((1 : Int) ≤ (R : Int)) = true := decide_eq_true hr.1
        have e2 : decide ((R : Int) ≤ 64) = true := decide_eq_true hr.2
        obtain ⟨c0, c1, c2, c3, c4⟩ := CC.out wd MF.out.below
        clear hpt hke hml HKQ HROOM CC hr
        go_wp2_with fail
        (with_reducible refine (HPT.out _ AF.out).mono ?_)
        rintro e w7 ⟨q7, d7, rfl, _, hs7, hq7, hb7⟩
        have M7 := Lib.hid (MF.out.call hb7)
        have O7 := Lib.hid (OF.out.below hb7)
        have S7 := Lib.hid hs7
        have Q7 := Lib.hid hq7
        have Z7 : Hid (∀ ad, q7 = some ad → u1.ownBlock ≠ some ad.block) := fun ad had e => by
          have h1 := (OF.out.lt _ e).2; have h2 := (hs7.2 ad had).1; omega
        clear hs7 hq7 hb7 HPT
        go_wp2
        exact ⟨⟨k + 1, q7, d7, by omega, by go_num, by rw [HKE.out], by rw [HKE.out]; exact S7.out.1, by rw [HKE.out]; exact Q7.out, by rw [HRQ.out, intVals_append]; exact O7.out, Z7.out, fun ad had => (S7.out.2 ad had).2, M7.out⟩, by simp [intOf]; omega⟩
      · have hke := HKQ.out
        rw [if_neg hr] at hke
        have HKE := Lib.hid hke
        clear hke HKQ HROOM CC
        by_cases h1 : 1 ≤ room
        · have e1 : decide ((1 : Int) ≤ room) = true := decide_eq_true h1
          have e2 : decide (room ≤ 64) = false := decide_eq_false (by omega)
          clear hr
          go_wp2
          exact ⟨⟨k + 1, qp, cp, by omega, by go_num, by rw [HKE.out, EM.out], by rw [HKE.out]; exact AF.out, by rw [HKE.out, ← EM.out]; exact QN.out, by rw [HRQ.out, intVals_append]; exact OF.out, Z1.out, fun ad had => Nat.lt_of_lt_of_le (X2.out ad had) GE.out, MF.out⟩, by simp [intOf]; omega⟩
        · have e1 : decide ((1 : Int) ≤ room) = false := decide_eq_false h1
          clear hr
          go_wp2
          exact ⟨⟨k + 1, qp, cp, by omega, by go_num, by rw [HKE.out, EM.out], by rw [HKE.out]; exact AF.out, by rw [HKE.out, ← EM.out]; exact QN.out, by rw [HRQ.out, intVals_append]; exact OF.out, Z1.out, fun ad had => Nat.lt_of_lt_of_le (X2.out ad had) GE.out, MF.out⟩, by simp [intOf]; omega⟩
    · obtain rfl : k = n := by omega
      have HO := Lib.hid (hO.mono (by have := hW0s.out; omega : w.heap.size ≤ W0.heap.size))
      have HB := Lib.hid hM.below
      go_wp2
      go_ret
      exact ⟨_, rfl, HO.out, HB.out⟩
end Go.Proofs.Ytcanbagnehdbiaa
