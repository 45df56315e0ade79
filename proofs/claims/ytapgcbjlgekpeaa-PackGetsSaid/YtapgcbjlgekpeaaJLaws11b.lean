/- Layer 11: the laws, walked: what is read. -/
import Derived.Test.YtapgcbjlgekpeaaJLaws11
namespace Go.Proofs.Ytapgcbjlgekpeaa
open Go.ChangeShapes Go.WideShapes Go.ChangeAt Go.RowKit

set_option maxHeartbeats 2000000 in
set_option maxRecDepth 100000 in
theorem packGets_walk (p : Option Addr) (cap : Nat) (b : List Nat) (w : World) (hs : Bytes w p b) (hl : ∀ n ∈ b, n < 256) (hc : b.length ≤ cap) (hb : b.length ≤ 9223372036854775807) :
    Calls Try.prog 8 #[.slice p b.length cap] w fun e w' => e = .returned (.bool true) ∧ Below w.heap.size w w' := by
  by_cases h600 : 600 < b.length
  · obtain ⟨n, en⟩ : ∃ n, n = b.length := ⟨_, rfl⟩
    rw [← en] at h600 hb ⊢
    have d : decide ((600 : Int) < n) = true := decide_eq_true (by omega)
    clear en hs hl hc
    go_enter Try.func8, Try.ntmps8
    go_wp2_with fail
    (with_reducible refine (awake11 _).mono ?_)
    rintro e w1 ⟨rfl, hb1⟩
    have B1 := Lib.hid hb1
    clear hb1
    go_wp2
    go_ret
    exact ⟨rfl, B1.out⟩
  have P1 := Lib.hid (fun (W : World) (h : Bytes W p b) => pack_get p cap b hl hc (by omega) W h)
  have P2 := Lib.hid (fun (W : World) (h : Bytes W p b) => ref_read p cap b W h hl hc (by omega))
  obtain ⟨e2, i64, le⟩ := Zig.all_spec b hl
  have hen := Zig.errno_ne e2
  have hfine := Pk.get_fine hl
  have hcs : ((Pk.get b).2 = 0 ∧ (Zig.all b).2 = 0) ∨ ((Pk.get b).1 = [] ∧ (Pk.get b).2 ≠ 0 ∧ (((Zig.all b).2 = 2 ∧ (Pk.get b).2 = 11) ∨ ((Zig.all b).2 ≠ 2 ∧ (Pk.get b).2 = 10))) := by
    unfold Pk.get
    by_cases h0 : (Zig.all b).2 = 0
    · rw [if_pos h0]
      split
      · exact .inl ⟨rfl, h0⟩
      · exact .inr ⟨rfl, (by decide), .inr ⟨by omega, rfl⟩⟩
    · rw [if_neg h0]
      refine .inr ⟨rfl, fun h => h0 (hen.2 h), ?_⟩
      by_cases h2 : (Zig.all b).2 = 2
      · exact .inl ⟨h2, by show Zig.errno _ = 11; rw [h2]; rfl⟩
      · exact .inr ⟨h2, by show Zig.errno _ = 10; rw [show (Zig.all b).2 = 1 by omega]; rfl⟩
  have hin : ∀ a ∈ (Pk.get b).1, a.In := by
    unfold Pk.get
    split
    · split
      · exact Pk.un_In _ _
      · simp
    · simp
  obtain ⟨g, eg⟩ : ∃ g, g = Pk.get b := ⟨_, rfl⟩
  rw [← eg] at P1 hfine hcs hin
  obtain ⟨L, cd⟩ := g
  obtain ⟨ms, ems⟩ : ∃ ms, ms = (Zig.all b).1 := ⟨_, rfl⟩
  obtain ⟨er, eer⟩ : ∃ ms, ms = (Zig.all b).2 := ⟨_, rfl⟩
  rw [← ems] at P2
  rw [← eer] at P2 hcs e2
  simp only at P1 hfine hcs hin
  have HS := Lib.hid hs
  have HBY := Lib.hid hl
  have d : decide ((600 : Int) < b.length) = false := decide_eq_false (by omega)
  rcases hcs with ⟨hcd, her⟩ | ⟨hL, hcd, hcs⟩
  · subst hcd her
    obtain ⟨hck, hput⟩ := hfine rfl
    have P3 := fun (q : Option Addr) (c : Nat) (W : World) (h : Samps W q L) => ref11_check q c L (by have := (Pk.check_all hck).1; omega) W h
    simp only [hck] at P3
    have P4 := fun (q : Option Addr) (c : Nat) (W : World) (h : Samps W q L) => ref11_put q c L hin hck W h
    rw [hput] at P4
    have Q3 := Lib.hid P3
    have Q4 := Lib.hid P4
    obtain ⟨m, em⟩ : ∃ n, n = b.length := ⟨_, rfl⟩
    have EM := Lib.hid em
    rw [← em] at hb h600 P1 P2 Q4 d ⊢
    obtain ⟨k, ek⟩ : ∃ n, n = ms.length := ⟨_, rfl⟩
    rw [← ek] at P2
    obtain ⟨nl, enl⟩ : ∃ n, n = L.length := ⟨_, rfl⟩
    have ENL := Lib.hid enl
    rw [← enl] at P1 Q3 Q4
    clear hs hl hc P3 P4 e2 i64 le hen hfine hin eg ems eer em ek enl hck hput
    go_enter Try.func8, Try.ntmps8
    go_wp2_with fail
    (with_reducible refine (awake11 _).mono ?_)
    rintro e w1 ⟨rfl, hb1⟩
    have B1 := Lib.hid hb1
    have S1 := Lib.hid (Sl.below HS.out hb1)
    clear hb1 HS
    go_wp2_with fail
    refine (P1.out _ S1.out).mono ?_
    rintro e w2 ⟨v2, rfl, hO2, hB2⟩
    rw [ENL.out] at hO2
    obtain ⟨q2, c2, rfl, _, hq2⟩ := samps_of_owns hO2
    have Q2 := Lib.hid hq2
    have S2 := Lib.hid (Sl.below S1.out hB2)
    have B2 := Lib.hid (B1.out.trans (hB2.mono B1.out.size))
    clear hO2 hB2 hq2 B1 S1 P1
    rw [← ENL.out]
    go_wp2_with fail
    refine (P2.out _ S2.out).mono ?_
    rintro e w3 ⟨v3, rfl, hO3, hB3⟩
    obtain ⟨q3, c3, rfl, _⟩ := hO3.sl
    have R3 := Lib.hid (Q2.out.below hB3)
    have S3 := Lib.hid (Sl.below S2.out hB3)
    have B3 := Lib.hid (B2.out.trans (hB3.mono B2.out.size))
    clear hO3 hB3 Q2 S2 B2 P2
    try rw [← ENL.out]
    go_wp2_with fail
    have hst : Stab (fun w' => (Below w.heap.size w w' ∧ Bytes w' p b) ∧ Samps w' q2 L) :=
      fun w1 w2 h hb => ⟨⟨h.1.1.trans (hb.mono h.1.1.size), Sl.below h.1.2 hb⟩, h.2.below hb⟩
    refine wp_region_E mixed [11] hst ⟨⟨below_drew B3.out, S3.out⟩, R3.out⟩ ?_
    refine wpAnyE_take 0 rfl (by kernel_rfl) (by kernel_rfl) (by kernel_rfl) (fun _ _ _ h => h) hst (EffB.pure rfl (fun _ => rfl)) (.inr (EffB.pure rfl (fun _ => rfl))) ?_
    simp only [act_norm]
    refine wpAnyE_take 1 (v := .int .i64 0) rfl (by kernel_rfl) (by kernel_rfl) (by kernel_rfl) (fun _ _ _ h => h) hst (EffB.run rfl rfl (fun wd hS => ?_)) (.inl (by kernel_rfl)) ?_
    · (go_wp2_with fail; (with_reducible refine (Q3.out q2 c2 wd hS.2).mono ?_); rintro e w'' ⟨rfl, hb⟩; exact ⟨rfl, hb⟩)
    simp only [act_norm]
    refine wpAnyE_take 2 (v := .bool true) rfl (by kernel_rfl) (by kernel_rfl) (by kernel_rfl) (fun _ _ _ h => h) hst (EffB.run rfl rfl (fun wd hS => ?_)) (.inr (EffB.run rfl rfl (fun wd hS => ?_))) ?_
    · (go_wp2; exact ⟨rfl, Below.refl _ _⟩)
    · (go_wp2; exact ⟨rfl, Below.refl _ _⟩)
    simp only [act_norm]
    refine wpAnyE_take 3 rfl (by kernel_rfl) (by kernel_rfl) (by kernel_rfl) (fun _ _ _ h => h) hst (EffB.pure rfl (fun _ => rfl)) (.inr (EffB.pure rfl (fun _ => rfl))) ?_
    simp only [act_norm]
    refine wpAnyE_take 4 rfl (by kernel_rfl) (by kernel_rfl) (by kernel_rfl) (fun _ _ _ h => h) hst (EffB.pure rfl (fun _ => rfl)) (.inr (EffB.pure rfl (fun _ => rfl))) ?_
    simp only [act_norm]
    refine wpAnyE_take 7 rfl (by kernel_rfl) (by kernel_rfl) (by kernel_rfl) (fun _ _ _ h => h) hst (EffB.pure rfl (fun _ => rfl)) (.inr (EffB.pure rfl (fun _ => rfl))) ?_
    simp only [act_norm]
    refine wpAnyE_take 8 (v := .string (Str.mk b)) rfl (by kernel_rfl) (by kernel_rfl) (by kernel_rfl) (fun _ _ _ h => h) hst (EffB.run rfl rfl (fun wd hS => ?_)) (.inl (by kernel_rfl)) ?_
    · have hcv := run_string_bytes (P := Try.prog) wd 62 9 5 p cap b Try.underlying62 Try.underlying5 Try.underlying9 HBY.out hS.1.2; rw [← EM.out] at hcv; go_wp2; exact ⟨rfl, Below.refl _ _⟩
    simp only [act_norm]
    refine wpAnyE_one 5 rfl (by kernel_rfl) rfl (fun wd hS => ?_)
    go_wp2_with fail
    (with_reducible refine (Q4.out q2 c2 _ hS.2).mono ?_)
    rintro e1 w6 ⟨v6, rfl, hO6, hB6⟩
    have hst2 := stab_and hst (stab_owns (B := w.heap.size) (sz := 1) (v := v6) (n := m) (xs := byteVals b))
    refine ⟨_, ⟨hst _ _ hS hB6, hO6.mono hS.1.1.size⟩, hst2, fun _ h => h.1, ?_⟩
    try simp only [act_norm]
    clear hO6 hB6 hS hst
    have hst := hst2
    refine wpAnyE_take 6 (v := .string (Str.mk b)) rfl (by kernel_rfl) (by kernel_rfl) (by kernel_rfl) (fun _ _ _ h => h) hst (EffB.run rfl rfl (fun wd hS => ?_)) (.inl (by kernel_rfl)) ?_
    · have h6 := hS.2; rw [EM.out] at h6; have hcv := run_string_own (P := Try.prog) wd 62 9 5 Try.underlying62 Try.underlying5 Try.underlying9 HBY.out h6; go_wp2; exact ⟨rfl, Below.refl _ _⟩
    simp only [act_norm]
    refine wpAnyE_take 9 (v := .bool true) rfl (by kernel_rfl) (by kernel_rfl) (by kernel_rfl) (fun _ _ _ h => h) hst (EffB.run rfl rfl (fun wd hS => ?_)) (.inr (EffB.run rfl rfl (fun wd hS => ?_))) ?_
    · (go_wp2; exact ⟨rfl, Below.refl _ _⟩)
    · (go_wp2; exact ⟨rfl, Below.refl _ _⟩)
    simp only [act_norm]
    refine wpAnyE_take 10 (v := .bool true) rfl (by kernel_rfl) (by kernel_rfl) (by kernel_rfl) (fun _ _ _ h => h) hst (EffB.run rfl rfl (fun wd hS => ?_)) (.inr (EffB.run rfl rfl (fun wd hS => ?_))) ?_
    · (go_wp2; exact ⟨rfl, Below.refl _ _⟩)
    · (go_wp2; exact ⟨rfl, Below.refl _ _⟩)
    simp only [act_norm]
    refine wpAnyE_take 11 rfl (by kernel_rfl) (by kernel_rfl) (by kernel_rfl) (fun _ _ _ h => h) hst (EffB.pure rfl (fun _ => rfl)) (.inr (EffB.pure rfl (fun _ => rfl))) ?_
    simp only [act_norm]
    refine wpAnyE_done (by kernel_rfl) (fun wd hS => ?_) _
    have BF := Lib.hid hS.1.1.1
    clear hS
    go_wp2
    go_ret
    exact ⟨rfl, BF.out⟩
  · subst hL
    have hcb : (cd == 0) = false := beq_eq_false_iff_ne.2 hcd
    obtain ⟨m, em⟩ : ∃ n, n = b.length := ⟨_, rfl⟩
    rw [← em] at hb h600 P1 P2 d ⊢
    obtain ⟨k, ek⟩ : ∃ n, n = ms.length := ⟨_, rfl⟩
    rw [← ek] at P2
    simp only [List.length_nil] at P1
    clear hs hl hc e2 i64 le hen hfine hin eg ems eer em ek
    go_enter Try.func8, Try.ntmps8
    go_wp2_with fail
    (with_reducible refine (awake11 _).mono ?_)
    rintro e w1 ⟨rfl, hb1⟩
    have B1 := Lib.hid hb1
    have S1 := Lib.hid (Sl.below HS.out hb1)
    clear hb1 HS
    go_wp2_with fail
    refine (P1.out _ S1.out).mono ?_
    rintro e w2 ⟨v2, rfl, hO2, hB2⟩
    obtain ⟨q2, c2, rfl, _⟩ := hO2.sl
    have S2 := Lib.hid (Sl.below S1.out hB2)
    have B2 := Lib.hid (B1.out.trans (hB2.mono B1.out.size))
    clear hO2 hB2 B1 S1 P1
    go_wp2_with fail
    refine (P2.out _ S2.out).mono ?_
    rintro e w3 ⟨v3, rfl, hO3, hB3⟩
    obtain ⟨q3, c3, rfl, _⟩ := hO3.sl
    have B3 := Lib.hid (B2.out.trans (hB3.mono B2.out.size))
    clear hO3 hB3 S2 B2 P2
    rcases hcs with ⟨rfl, rfl⟩ | ⟨h2, rfl⟩
    · go_wp2
      go_ret
      exact ⟨rfl, B3.out⟩
    · have h2i : ¬ ((er : Int) = 2) := by omega
      have h2b : ((er : Int) == 2) = false := beq_eq_false_iff_ne.2 h2i
      go_wp2
      go_ret
      exact ⟨rfl, B3.out⟩
end Go.Proofs.Ytapgcbjlgekpeaa
