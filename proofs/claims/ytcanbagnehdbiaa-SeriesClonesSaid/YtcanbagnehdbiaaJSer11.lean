/- A series: into which all samples were put; the reference's. -/
import Derived.Test.YtcanbagnehdbiaaJSer
namespace Go.Proofs.Ytcanbagnehdbiaa
open Go.ChangeShapes Go.WideShapes Go.ChangeAt Go.RowKit

theorem Samps.cc {w0 : World} {b off : Nat} {l : List Samp} (h : Samps w0 (some ⟨b, off, none⟩) l) (k : Nat) (hk : k < l.length) (W : World) (hb : Below w0.heap.size w0 W) :
    W.cell? ⟨b, off + k * 2, none⟩ = some (.int .i64 (l[k]?.getD default).tick) ∧ W.cell? ⟨b, off + k * 2 + 1, none⟩ = some (.int .i64 (l[k]?.getD default).val) := (h.below hb).at k hk

theorem stab_geS {n : Nat} : Stab (fun w' : World => n ≤ w'.heap.size) := fun _ _ h hb => Nat.le_trans h hb.size
theorem stab_sampsS {q : Option Addr} {l : List Samp} : Stab (fun w' => Samps w' q l) := fun _ _ h hb => h.below hb

set_option maxHeartbeats 4000000 in
set_option maxRecDepth 100000 in
theorem ser_of (p : Option Addr) (cap : Nat) (l : List Samp) (hb : l.length ≤ 100000) (room : Nat) (h1 : 1 ≤ room) (h2 : room ≤ 256) (w : World) (hs : Samps w p l) :
    Calls Try.prog 45 #[.int .i64 room, .slice p l.length cap] w fun e w' => ∃ s v, e = .returned (.pointer (some ⟨s, 0, none⟩)) ∧ SerAt w' w.heap.size s v room (Ser.of room l l.length) ∧ Below w.heap.size w w' := by
  have HS := Lib.hid hs
  have HNX := Lib.hid (Ser.of_next room l)
  have HZ : Hid (Ser.of room l 0 = []) := rfl
  have HNW := Lib.hid (ser_new room h1 h2)
  obtain ⟨f, ef⟩ : ∃ f, f = Ser.of room l := ⟨_, rfl⟩
  rw [← ef] at HNX HZ ⊢
  obtain ⟨n, en⟩ : ∃ n, n = l.length := ⟨_, rfl⟩
  have EN := Lib.hid en
  rw [← en] at hb ⊢
  clear hs en ef
  go_enter Try.func45, Try.ntmps45
  go_wp2_with fail
  (with_reducible refine (HNW.out _).mono ?_)
  rintro e w1 ⟨s, rfl, hs1, hb1⟩
  have S1 := Lib.hid hs1
  have B1 := Lib.hid hb1
  clear hs1 hb1
  go_wp2
  go_loopw [12] (fun i wr => ∃ (k : Nat) (v : Value), k ≤ n ∧ i = .int .i64 (k : Nat) ∧ SerAt wr w.heap.size s v room (f k) ∧ Below w.heap.size w wr) (fun i _ => n - (intOf i).toNat)
  case atStart => exact ⟨0, _, by omega, rfl, by rw [HZ.out]; exact S1.out, B1.out⟩
  case round =>
    obtain ⟨k, v, hk, rfl, hSer, hB⟩ := hrel
    by_cases hlt : k < n
    · have hkl : k < l.length := by have := EN.out; omega
      obtain ⟨bq, off, rfl, hbw, _⟩ := HS.out.cells k hkl
      obtain ⟨c0, c1⟩ := HS.out.cc k hkl wr hB
      have hnx := HNX.out k hkl
      obtain ⟨x, ex⟩ : ∃ x, x = l[k]?.getD default := ⟨_, rfl⟩
      rw [← ex] at c0 c1 hnx
      have hSA := hSer.below (below1 wr (.cells #[.int .i64 x.tick, .int .i64 x.val] 73))
      have HBA := Lib.hid (hB.alloc hB.size (.cells #[.int .i64 x.tick, .int .i64 x.val] 73))
      have P := Lib.hid (ser_step hSA (by have := HBA.out.size; exact this) x)
      have LOW := Lib.hid (And.intro hSA.low hSA.owns.lt)
      have HNX2 := Lib.hid hnx
      have hkn : (k : Int) < n := by omega
      obtain ⟨cd, ecd⟩ : ∃ c, c = Ser.code x := ⟨_, rfl⟩
      rw [← ecd] at P
      obtain ⟨tick, val⟩ := x
      simp only at c0 c1 P HBA
      clear hSA hSer hB hnx ex ecd
      go_wp2_with fail
      (with_reducible refine P.out.mono ?_)
      rintro e w2 ⟨rfl, v2, hs2, ht2, hv2⟩
      have S2 := Lib.hid hs2
      have B2 : Hid (Below w.heap.size w w2) := HBA.out.trans (ht2.below (fun k' h => by
        rcases h with rfl | h
        · exact LOW.out.1
        · exact (LOW.out.2 k' h).1) HBA.out.size)
      clear hs2 ht2 hv2 P
      go_wp2
      exact ⟨⟨k + 1, v2, by omega, by go_num, by rw [HNX2.out]; exact S2.out, B2.out⟩, by simp [intOf]; omega⟩
    · obtain rfl : k = n := by omega
      have S2 := Lib.hid hSer
      have B2 := Lib.hid hB
      clear hSer hB
      go_wp2
      go_ret
      exact ⟨_, _, rfl, S2.out, B2.out⟩

set_option maxHeartbeats 4000000 in
set_option maxRecDepth 100000 in
theorem ref08_of (p : Option Addr) (cap : Nat) (l : List Samp) (hb : l.length ≤ 100000) (room : Nat) (h1 : 1 ≤ room) (h2 : room ≤ 256) (w : World) (hs : Samps w p l) :
    Calls Try.prog 48 #[.int .i64 room, .slice p l.length cap] w fun e w' => ∃ q c, e = .returned (.slice q (Ser.of room l l.length).length c) ∧ (Ser.of room l l.length).length ≤ c ∧ Samps w' q (Ser.of room l l.length) ∧ (∀ ad, q = some ad → w.heap.size ≤ ad.block ∧ ad.block < w'.heap.size) ∧ Below w.heap.size w w' := by
  have HS := Lib.hid hs
  have HNX := Lib.hid (Ser.of_next room l)
  have HSO := Lib.hid (Ser.of_sorted room l)
  have HLE := Lib.hid (Ser.of_length h1 l)
  have HZ : Hid (Ser.of room l 0 = []) := rfl
  obtain ⟨f, ef⟩ : ∃ f, f = Ser.of room l := ⟨_, rfl⟩
  rw [← ef] at HNX HZ HSO HLE ⊢
  obtain ⟨n, en⟩ : ∃ n, n = l.length := ⟨_, rfl⟩
  have EN := Lib.hid en
  rw [← en] at hb ⊢
  clear hs en ef
  go_enter Try.func48, Try.ntmps48
  go_wp2
  go_loopw [5, 6] (fun o i wr => ∃ (k : Nat) (qs : Option Addr) (cs : Nat), k ≤ n ∧ i = .int .i64 (k : Nat) ∧ o = .slice qs (f k).length cs ∧ (f k).length ≤ cs ∧ Samps wr qs (f k) ∧ (∀ ad, qs = some ad → w.heap.size ≤ ad.block ∧ ad.block < wr.heap.size) ∧ Below w.heap.size w wr) (fun _ i _ => n - (intOf i).toNat)
  case atStart => exact ⟨0, none, 0, by omega, rfl, by rw [HZ.out]; rfl, by rw [HZ.out]; simp, by rw [HZ.out]; exact .inl rfl, fun _ h => (by cases h), Below.refl _ _⟩
  case round =>
    obtain ⟨k, qs, cs, hk, rfl, rfl, hcs, hSa, hqb, hB⟩ := hrel
    by_cases hlt : k < n
    · have hkl : k < l.length := by have := EN.out; omega
      obtain ⟨bq, off, rfl, hbw, _⟩ := HS.out.cells k hkl
      have hcc := HS.out.cc k hkl
      have hnx := HNX.out k hkl
      have hso := HSO.out k (by have := EN.out; omega)
      have hle := HLE.out k (by have := EN.out; omega)
      obtain ⟨x, ex⟩ : ∃ x, x = l[k]?.getD default := ⟨_, rfl⟩
      simp only [← ex] at hcc
      rw [← ex] at hnx
      have CC := Lib.hid hcc
      obtain ⟨L, eL⟩ : ∃ L, L = f k := ⟨_, rfl⟩
      rw [← eL] at hnx hso hle hcs hSa ⊢
      have HR := Lib.hid (ref08_right x)
      have HST : Hid (f (k + 1) = if Ser.code x = 0 then Ser.put L room x else L) := hnx
      have PP := Lib.hid (fun (W : World) (h : Samps W qs L) => ref08_put qs L.length cs L rfl (by omega) hso room x W h)
      obtain ⟨cd, ecd⟩ : ∃ c, c = Ser.code x := ⟨_, rfl⟩
      rw [← ecd] at HR HST
      obtain ⟨S, eS⟩ : ∃ S, S = Ser.put L room x := ⟨_, rfl⟩
      rw [← eS] at HST
      simp only [← eS] at PP
      obtain ⟨m, em⟩ : ∃ m, m = L.length := ⟨_, rfl⟩
      simp only [← em] at PP
      have EM := Lib.hid em
      have hk0 : (0 : Int) ≤ (k : Int) := by omega
      have hkn : (k : Int) < (n : Int) := by omega
      have SA := Lib.hid hSa
      have QB := Lib.hid hqb
      have BB := Lib.hid hB
      have CS := Lib.hid hcs
      rw [← em]
      have hst := stab_and (stab_below (B := w.heap.size) (w0 := w) (Nat.le_refl _)) (stab_and (stab_sampsS (q := qs) (l := L)) (stab_geS (n := wr.heap.size)))
      clear hcc hnx hso hle hSa hqb hB hcs ex eL ecd eS em hkl
      obtain ⟨tick, val⟩ := x
      by_cases hc : cd = 0
      · subst hc
        have HST2 := Lib.hid (HST.out.trans (if_pos rfl))
        clear HST
        go_wp2_with fail
        refine wp_region_E mixed [] hst ⟨below_drewN BB.out 1, SA.out.below (below_drew (Below.refl _ _)), Nat.le_refl _⟩ ?_
        refine wpAnyE_take 0 rfl (by kernel_rfl) (by kernel_rfl) (by kernel_rfl) (fun _ _ _ h => h) hst (EffB.pure rfl (fun _ => rfl)) (.inr (EffB.pure rfl (fun _ => rfl))) ?_
        simp only [act_norm]
        refine wpAnyE_take 1 rfl (by kernel_rfl) (by kernel_rfl) (by kernel_rfl) (fun _ _ _ h => h) hst (EffB.pure rfl (fun _ => rfl)) (.inr (EffB.pure rfl (fun _ => rfl))) ?_
        simp only [act_norm]
        refine wpAnyE_take 2 (v := .pointer (some ⟨bq, off + k * 2, none⟩)) rfl (by kernel_rfl) (by kernel_rfl) (by kernel_rfl) (fun _ _ _ h => h) hst (EffB.run rfl rfl (fun wd hS => ?_)) (.inr (EffB.run rfl rfl (fun wd hS => ?_))) ?_
        · (go_wp2; exact ⟨rfl, Below.refl _ _⟩)
        · (go_wp2; exact ⟨rfl, Below.refl _ _⟩)
        simp only [act_norm]
        refine wpAnyE_take 3 (v := .pointer (some ⟨bq, off + k * 2, none⟩)) rfl (by kernel_rfl) (by kernel_rfl) (by kernel_rfl) (fun _ _ _ h => h) hst (EffB.run rfl rfl (fun wd hS => ?_)) (.inr (EffB.run rfl rfl (fun wd hS => ?_))) ?_
        · (go_wp2; exact ⟨rfl, Below.refl _ _⟩)
        · (go_wp2; exact ⟨rfl, Below.refl _ _⟩)
        simp only [act_norm]
        refine wpAnyE_take 4 (v := .int .i64 tick) rfl (by kernel_rfl) (by kernel_rfl) (by kernel_rfl) (fun _ _ _ h => h) hst (EffB.run rfl rfl (fun wd hS => ?_)) (.inl (by kernel_rfl)) ?_
        · obtain ⟨c0, c1⟩ := CC.out wd hS.1; go_wp2; exact ⟨rfl, Below.refl _ _⟩
        simp only [act_norm]
        refine wpAnyE_take 5 rfl (by kernel_rfl) (by kernel_rfl) (by kernel_rfl) (fun _ _ _ h => h) hst (EffB.pure rfl (fun _ => rfl)) (.inr (EffB.pure rfl (fun _ => rfl))) ?_
        simp only [act_norm]
        refine wpAnyE_take 6 rfl (by kernel_rfl) (by kernel_rfl) (by kernel_rfl) (fun _ _ _ h => h) hst (EffB.pure rfl (fun _ => rfl)) (.inr (EffB.pure rfl (fun _ => rfl))) ?_
        simp only [act_norm]
        refine wpAnyE_take 7 (v := .pointer (some ⟨bq, off + k * 2, none⟩)) rfl (by kernel_rfl) (by kernel_rfl) (by kernel_rfl) (fun _ _ _ h => h) hst (EffB.run rfl rfl (fun wd hS => ?_)) (.inr (EffB.run rfl rfl (fun wd hS => ?_))) ?_
        · (go_wp2; exact ⟨rfl, Below.refl _ _⟩)
        · (go_wp2; exact ⟨rfl, Below.refl _ _⟩)
        simp only [act_norm]
        refine wpAnyE_take 8 (v := .pointer (some ⟨bq, off + k * 2 + 1, none⟩)) rfl (by kernel_rfl) (by kernel_rfl) (by kernel_rfl) (fun _ _ _ h => h) hst (EffB.run rfl rfl (fun wd hS => ?_)) (.inr (EffB.run rfl rfl (fun wd hS => ?_))) ?_
        · (go_wp2; exact ⟨rfl, Below.refl _ _⟩)
        · (go_wp2; exact ⟨rfl, Below.refl _ _⟩)
        simp only [act_norm]
        refine wpAnyE_take 9 (v := .int .i64 val) rfl (by kernel_rfl) (by kernel_rfl) (by kernel_rfl) (fun _ _ _ h => h) hst (EffB.run rfl rfl (fun wd hS => ?_)) (.inl (by kernel_rfl)) ?_
        · obtain ⟨c0, c1⟩ := CC.out wd hS.1; go_wp2; exact ⟨rfl, Below.refl _ _⟩
        simp only [act_norm]
        refine wpAnyE_take 10 (v := .int .i64 0) rfl (by kernel_rfl) (by kernel_rfl) (by kernel_rfl) (fun _ _ _ h => h) hst (EffB.run rfl rfl (fun wd hS => ?_)) (.inl (by kernel_rfl)) ?_
        · (go_wp2_with fail; (with_reducible refine (HR.out wd).mono ?_); rintro e w'' ⟨rfl, rfl⟩; exact ⟨rfl, Below.refl _ _⟩)
        simp only [act_norm]
        refine wpAnyE_take 11 rfl (by kernel_rfl) (by kernel_rfl) (by kernel_rfl) (fun _ _ _ h => h) hst (EffB.pure rfl (fun _ => rfl)) (.inr (EffB.pure rfl (fun _ => rfl))) ?_
        simp only [act_norm]
        refine wpAnyE_done (by kernel_rfl) (fun wd hS => ?_) _
        have BF := Lib.hid hS.1
        have P := Lib.hid (PP.out wd hS.2.1)
        obtain ⟨c0, c1⟩ := CC.out wd hS.1
        clear hS hst PP HR SA QB BB CS
        go_wp2_with fail
        (with_reducible refine P.out.mono ?_)
        rintro e w3 ⟨q3, d3, rfl, hd3, hs3, hq3, hb3⟩
        have SA3 := Lib.hid hs3
        have B3 := Lib.hid (BF.out.trans (hb3.mono BF.out.size))
        have Q3 : Hid (∀ ad, q3 = some ad → w.heap.size ≤ ad.block ∧ ad.block < w3.heap.size) := fun ad had => ⟨Nat.le_trans BF.out.size (hq3 ad had).1, (hq3 ad had).2⟩
        have D3 := Lib.hid hd3
        clear hd3 hs3 hq3 hb3 P c0 c1 BF
        go_wp2
        exact ⟨⟨k + 1, q3, d3, by omega, by go_num, by rw [HST2.out], by rw [HST2.out]; exact D3.out, by rw [HST2.out]; exact SA3.out, Q3.out, B3.out⟩, by simp [intOf]; omega⟩
      · have HST2 := Lib.hid (HST.out.trans (if_neg hc))
        have hcb : (cd == 0) = false := beq_eq_false_iff_ne.2 hc
        clear HST PP
        go_wp2_with fail
        refine wp_region_E mixed [] hst ⟨below_drewN BB.out 1, SA.out.below (below_drew (Below.refl _ _)), Nat.le_refl _⟩ ?_
        refine wpAnyE_take 0 rfl (by kernel_rfl) (by kernel_rfl) (by kernel_rfl) (fun _ _ _ h => h) hst (EffB.pure rfl (fun _ => rfl)) (.inr (EffB.pure rfl (fun _ => rfl))) ?_
        simp only [act_norm]
        refine wpAnyE_take 1 rfl (by kernel_rfl) (by kernel_rfl) (by kernel_rfl) (fun _ _ _ h => h) hst (EffB.pure rfl (fun _ => rfl)) (.inr (EffB.pure rfl (fun _ => rfl))) ?_
        simp only [act_norm]
        refine wpAnyE_take 2 (v := .pointer (some ⟨bq, off + k * 2, none⟩)) rfl (by kernel_rfl) (by kernel_rfl) (by kernel_rfl) (fun _ _ _ h => h) hst (EffB.run rfl rfl (fun wd hS => ?_)) (.inr (EffB.run rfl rfl (fun wd hS => ?_))) ?_
        · (go_wp2; exact ⟨rfl, Below.refl _ _⟩)
        · (go_wp2; exact ⟨rfl, Below.refl _ _⟩)
        simp only [act_norm]
        refine wpAnyE_take 3 (v := .pointer (some ⟨bq, off + k * 2, none⟩)) rfl (by kernel_rfl) (by kernel_rfl) (by kernel_rfl) (fun _ _ _ h => h) hst (EffB.run rfl rfl (fun wd hS => ?_)) (.inr (EffB.run rfl rfl (fun wd hS => ?_))) ?_
        · (go_wp2; exact ⟨rfl, Below.refl _ _⟩)
        · (go_wp2; exact ⟨rfl, Below.refl _ _⟩)
        simp only [act_norm]
        refine wpAnyE_take 4 (v := .int .i64 tick) rfl (by kernel_rfl) (by kernel_rfl) (by kernel_rfl) (fun _ _ _ h => h) hst (EffB.run rfl rfl (fun wd hS => ?_)) (.inl (by kernel_rfl)) ?_
        · obtain ⟨c0, c1⟩ := CC.out wd hS.1; go_wp2; exact ⟨rfl, Below.refl _ _⟩
        simp only [act_norm]
        refine wpAnyE_take 5 rfl (by kernel_rfl) (by kernel_rfl) (by kernel_rfl) (fun _ _ _ h => h) hst (EffB.pure rfl (fun _ => rfl)) (.inr (EffB.pure rfl (fun _ => rfl))) ?_
        simp only [act_norm]
        refine wpAnyE_take 6 rfl (by kernel_rfl) (by kernel_rfl) (by kernel_rfl) (fun _ _ _ h => h) hst (EffB.pure rfl (fun _ => rfl)) (.inr (EffB.pure rfl (fun _ => rfl))) ?_
        simp only [act_norm]
        refine wpAnyE_take 7 (v := .pointer (some ⟨bq, off + k * 2, none⟩)) rfl (by kernel_rfl) (by kernel_rfl) (by kernel_rfl) (fun _ _ _ h => h) hst (EffB.run rfl rfl (fun wd hS => ?_)) (.inr (EffB.run rfl rfl (fun wd hS => ?_))) ?_
        · (go_wp2; exact ⟨rfl, Below.refl _ _⟩)
        · (go_wp2; exact ⟨rfl, Below.refl _ _⟩)
        simp only [act_norm]
        refine wpAnyE_take 8 (v := .pointer (some ⟨bq, off + k * 2 + 1, none⟩)) rfl (by kernel_rfl) (by kernel_rfl) (by kernel_rfl) (fun _ _ _ h => h) hst (EffB.run rfl rfl (fun wd hS => ?_)) (.inr (EffB.run rfl rfl (fun wd hS => ?_))) ?_
        · (go_wp2; exact ⟨rfl, Below.refl _ _⟩)
        · (go_wp2; exact ⟨rfl, Below.refl _ _⟩)
        simp only [act_norm]
        refine wpAnyE_take 9 (v := .int .i64 val) rfl (by kernel_rfl) (by kernel_rfl) (by kernel_rfl) (fun _ _ _ h => h) hst (EffB.run rfl rfl (fun wd hS => ?_)) (.inl (by kernel_rfl)) ?_
        · obtain ⟨c0, c1⟩ := CC.out wd hS.1; go_wp2; exact ⟨rfl, Below.refl _ _⟩
        simp only [act_norm]
        refine wpAnyE_take 10 (v := .int .i64 cd) rfl (by kernel_rfl) (by kernel_rfl) (by kernel_rfl) (fun _ _ _ h => h) hst (EffB.run rfl rfl (fun wd hS => ?_)) (.inl (by kernel_rfl)) ?_
        · (go_wp2_with fail; (with_reducible refine (HR.out wd).mono ?_); rintro e w'' ⟨rfl, rfl⟩; exact ⟨rfl, Below.refl _ _⟩)
        simp only [act_norm]
        refine wpAnyE_take 11 (v := .bool false) rfl (by kernel_rfl) (by kernel_rfl) (by kernel_rfl) (fun _ _ _ h => h) hst (EffB.run rfl rfl (fun wd hS => ?_)) (.inr (EffB.run rfl rfl (fun wd hS => ?_))) ?_
        · (go_wp2; exact ⟨rfl, Below.refl _ _⟩)
        · (go_wp2; exact ⟨rfl, Below.refl _ _⟩)
        simp only [act_norm]
        refine wpAnyE_done (by kernel_rfl) (fun wd hS => ?_) _
        have HF := Lib.hid hS
        have Z : Hid (wr.heap.size ≤ wd.heap.size) := hS.2.2
        clear hS hst HR SA BB
        go_wp2
        exact ⟨⟨k + 1, qs, cs, by omega, by go_num, by rw [HST2.out, ← EM.out], by rw [HST2.out]; exact CS.out, by rw [HST2.out]; exact HF.out.2.1, fun ad had => ⟨(QB.out ad had).1, Nat.lt_of_lt_of_le (QB.out ad had).2 Z.out⟩, HF.out.1⟩, by simp [intOf]; omega⟩
    · obtain rfl : k = n := by omega
      have HF := Lib.hid (And.intro hcs (And.intro hSa (And.intro hqb hB)))
      clear hcs hSa hqb hB
      go_wp2
      go_ret
      exact ⟨_, _, rfl, HF.out.1, HF.out.2.1, HF.out.2.2.1, HF.out.2.2.2⟩
end Go.Proofs.Ytcanbagnehdbiaa
