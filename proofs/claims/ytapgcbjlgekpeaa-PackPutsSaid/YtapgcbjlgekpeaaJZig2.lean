/- Layer 6: Get, by a goto. -/
import Derived.Test.YtapgcbjlgekpeaaJZig
import Derived.ScopeJumps
import Derived.WalkMore
namespace Go.Proofs.Ytapgcbjlgekpeaa
open Go.ChangeShapes Go.WideShapes Go.ChangeAt Go.RowKit

def Zig.errno (e : Nat) : Int := if e = 1 then 10 else if e = 2 then 11 else 0

theorem Zig.bad_iff (k c : Nat) : Zig.bad k c = true ↔ (k = 9 ∧ 1 < c ∨ 0 < k ∧ c = 0) := by unfold Zig.bad; simp

/-- The word goes on. -/
theorem Zig.word (v c k : Nat) (hv : v < 2 ^ (7 * k)) (hc : c < 256) (hm : v + c % 128 * 2 ^ (7 * k) < 18446744073709551616) :
    bits .or .u64 (v : Int) (IntKind.u64.wrap (IntKind.u64.wrap (bits .and .u8 (c : Int) 127) * 2 ^ (7 * k))) = ((v + c % 128 * 2 ^ (7 * k) : Nat) : Int) := by
  have h1 : bits .and .u8 (c : Int) 127 = ((c % 128 : Nat) : Int) := by
    have := u8_and_nat c 127 hc (by omega)
    rw [show (127 : Nat) = 2 ^ 7 - 1 from rfl, Nat.and_two_pow_sub_one_eq_mod] at this
    exact this
  have h2 : IntKind.u64.wrap ((c % 128 : Nat) : Int) = ((c % 128 : Nat) : Int) := by rw [IntKind.wrap_u64]; omega
  have h3 : ((c % 128 : Nat) : Int) * 2 ^ (7 * k) = ((c % 128 * 2 ^ (7 * k) : Nat) : Int) := by simp
  rw [h1, h2, h3]
  obtain ⟨P, hP⟩ : ∃ P, P = c % 128 * 2 ^ (7 * k) := ⟨_, rfl⟩
  rw [← hP] at hm ⊢
  have h4 : IntKind.u64.wrap ((P : Nat) : Int) = (P : Int) := by rw [IntKind.wrap_u64]; omega
  rw [h4, u64_or_nat _ _ (by omega) (by omega), Nat.or_comm, hP, Nat.mul_comm, ← Nat.two_pow_add_eq_or_of_lt hv, Nat.add_comm]

theorem Zig.word0 (c : Nat) (hc : c < 256) : bits .or .u64 0 (IntKind.u64.wrap (IntKind.u64.wrap (bits .and .u8 (c : Int) 127))) = ((c % 128 : Nat) : Int) := by
  have h := Zig.word 0 c 0 (by simp) hc (by simp; omega)
  simpa using h

set_option maxHeartbeats 2000000 in
set_option maxRecDepth 100000 in
theorem zig_get (p : Option Addr) (cap : Nat) (l : List Nat) (w : World) (hs : Bytes w p l) (hl : ∀ n ∈ l, n < 256) (hb : l.length ≤ 9223372036854775807) :
    Calls Try.prog 148 #[.slice p l.length cap] w fun e w' => e = .returned (.tuple #[.int .i64 (Zig.get l).1, .int .i64 (Zig.get l).2.1, .int .i64 (Zig.errno (Zig.get l).2.2)]) ∧ w = w' := by
  have HS := Lib.hid hs
  have HL : Hid (∀ j : Nat, l[j]?.getD 0 < 256) := fun j => by
    cases h : l[j]? with
    | none => simp
    | some n => exact hl n (List.mem_of_getElem? h)
  have HG : Hid (Zig.scan l (l.length + 1) 0 0 = Zig.get l) := rfl
  obtain ⟨r, hr⟩ : ∃ r, r = Zig.get l := ⟨_, rfl⟩
  rw [← hr] at HG ⊢
  obtain ⟨n, hn⟩ : ∃ n, n = l.length := ⟨_, rfl⟩
  rw [← hn] at HG hb ⊢
  have HN := Lib.hid hn
  clear hs hl hr hn
  go_enter Try.func148, Try.ntmps148
  go_wp2
  refine wp_scope_jumps 0 (fun a' w' => w' = w ∧ ∃ (k v : Nat) (u7 u8 u9 u10 u11 u12 u13 u14 u15 u16 u17 u18 u19 u20 u21 u22 u23 u24 u25 u26 u27 u28 u29 u30 u31 u32 u33 u34 u35 u36 u37 u38 u39 : Value), a' = { tmps := #[.slice p n cap, undef, .int .i64 0, .int .i64 0, .int .i64 0, .int .u64 v, .int .i64 k, u7, u8, u9, u10, u11, u12, u13, u14, u15, u16, u17, u18, u19, u20, u21, u22, u23, u24, u25, u26, u27, u28, u29, u30, u31, u32, u33, u34, u35, u36, u37, u38, u39], defers := [] } ∧ k ≤ n ∧ k ≤ 9 ∧ v < 2 ^ (7 * k) ∧ Zig.scan l (n + 1 - k) k v = r) (fun a' _ => n - (intOf (a'.tmps.getD 6 undef)).toNat) rfl ?_ ?_
  · by_cases h0 : n = 0
    · have HE := Lib.hid (Zig.scan_end l (n + 1) 0 0 (by have := HN.out; omega))
      rw [HG.out] at HE
      subst h0
      go_wp2
      go_step3
      go_wp2
      simp only [Exit.jump]
      refine bodyPost_ret (results_tmp3 rfl _ _ _) rfl ?_
      exact ⟨by rw [HE.out]; rfl, rfl⟩
    · have hkl : 0 < l.length := by have := HN.out; omega
      obtain ⟨b, off, rfl, _, hc⟩ := HS.out.pos (by omega)
      have hcell := hc 0 (by omega)
      rw [Nat.add_zero] at hcell
      clear hc
      have hc256 := HL.out 0
      have hr := HG.out
      have hw2 := Zig.scan_last l n 0 0 hkl
      have hw3 := Zig.scan_more l n 0 0 hkl
      rw [hr] at hw2 hw3
      obtain ⟨c, ec⟩ : ∃ c, c = l[0]?.getD 0 := ⟨_, rfl⟩
      rw [← ec] at hcell hc256 hw2 hw3
      have hwr : ∀ w, Calls Try.prog 179 #[.int .i64 0, .int .u8 c] w fun e w' => e = .returned (.bool false) ∧ w = w' := by
        have := zig_wrong 0 c (by omega) hc256
        rw [show Zig.bad 0 c = false from decide_eq_false (by omega)] at this
        exact this
      have HW2 := Lib.hid (hw2 (by omega))
      have HW3 := Lib.hid (hw3 (by omega))
      have HWR := Lib.hid hwr
      have hkn : ((0 : Int) == n) = false := beq_eq_false_iff_ne.2 (by omega)
      have hkn' : ((n : Int) == 0) = false := beq_eq_false_iff_ne.2 (by omega)
      have hW := Zig.word0 c hc256
      have hml : c % 128 < 128 := Nat.mod_lt _ (by omega)
      have hmc : c < 128 → c % 128 = c := fun h => Nat.mod_eq_of_lt h
      obtain ⟨m, em⟩ : ∃ m, m = c % 128 := ⟨_, rfl⟩
      rw [← em] at hW hml hmc
      by_cases hc : c < 128
      · have hE := HW2.out hc
        rw [Nat.mul_zero, Nat.pow_zero, Nat.mul_one, Nat.zero_add, Nat.zero_add, ← hmc hc] at hE
        have HE := Lib.hid hE
        have HZ := Lib.hid (zig_zag m (by omega))
        clear hE em hmc HW2 HW3 hkl ec hr hw2 hw3 hwr
        go_wp2
        go_step3
        go_wp2_with (first | ((with_reducible refine (HWR.out _).mono ?_); rintro e w1 ⟨rfl, rfl⟩) | ((with_reducible refine (HZ.out _).mono ?_); rintro e w1 ⟨rfl, rfl⟩))
        simp only [Exit.jump]
        refine bodyPost_ret (results_tmp3 rfl _ _ _) rfl ?_
        exact ⟨by rw [HE.out]; rfl, rfl⟩
      · have hE := HW3.out hc
        rw [Nat.mul_zero, Nat.pow_zero, Nat.mul_one, Nat.zero_add, Nat.zero_add, ← em] at hE
        have HE := Lib.hid hE
        clear hE em hmc HW2 HW3 hkl ec hr hw2 hw3 hwr
        go_wp2
        go_step3
        go_wp2_with ((with_reducible refine (HWR.out _).mono ?_); rintro e w1 ⟨rfl, rfl⟩)
        go_step3
        rw [show (1 : Int) = ((1 : Nat) : Int) from rfl]
        refine ⟨rfl, rfl, 1, m, _, _, _, _, _, _, _, _, _, _, _, _, _, _, _, _, _, _, _, _, _, _, _, _, _, _, _, _, _, _, _, _, _, rfl, by omega, by omega, by omega, by rw [show n + 1 - 1 = n by omega]; exact HE.out.symm⟩
  · rintro a' w' ⟨rfl, k, v, u7, u8, u9, u10, u11, u12, u13, u14, u15, u16, u17, u18, u19, u20, u21, u22, u23, u24, u25, u26, u27, u28, u29, u30, u31, u32, u33, u34, u35, u36, u37, u38, u39, rfl, hk, hk9, hv, hr⟩
    by_cases hlt : k < n
    · have hkl : k < l.length := by have := HN.out; omega
      obtain ⟨b, off, rfl, _, hc⟩ := HS.out.pos (by omega)
      have hcell := hc k (by omega)
      clear hc
      have hc256 := HL.out k
      rw [show n + 1 - k = (n - k) + 1 by omega] at hr
      have hw1 := Zig.scan_wrong l (n - k) k v hkl
      have hw2 := Zig.scan_last l (n - k) k v hkl
      have hw3 := Zig.scan_more l (n - k) k v hkl
      rw [hr] at hw1 hw2 hw3
      obtain ⟨c, ec⟩ : ∃ c, c = l[k]?.getD 0 := ⟨_, rfl⟩
      rw [← ec] at hcell hc256 hw1 hw2 hw3
      have hwr := zig_wrong k c (by omega) hc256
      clear ec hr hkl
      have hkn : ((k : Int) == n) = false := beq_eq_false_iff_ne.2 (by omega)
      by_cases hw : k = 9 ∧ 1 < c ∨ 0 < k ∧ c = 0
      · rw [(Zig.bad_iff k c).2 hw] at hwr
        have HE := Lib.hid (hw1 hw)
        have HWR := Lib.hid hwr
        clear hw1 hw2 hw3 hw hwr
        go_wp2_with ((with_reducible refine (HWR.out _).mono ?_); rintro e w1 ⟨rfl, rfl⟩)
        simp only [Exit.jump]
        refine bodyPost_ret (results_tmp3 rfl _ _ _) rfl ?_
        exact ⟨by rw [HE.out]; rfl, rfl⟩
      · rw [show Zig.bad k c = false by cases hbd : Zig.bad k c; rfl; exact absurd ((Zig.bad_iff k c).1 hbd) hw] at hwr
        have HW2 := Lib.hid (hw2 hw)
        have HW3 := Lib.hid (hw3 hw)
        have HWR := Lib.hid hwr
        clear hw1 hw2 hw3 hwr
        have hq : (2 : Nat) ^ (7 * k) ≤ 2 ^ 63 := Nat.pow_le_pow_right (by omega) (by omega)
        have HP : Hid ((2 : Nat) ^ (7 * (k + 1)) = 2 ^ (7 * k) * 128) := by show (2 : Nat) ^ (7 * (k + 1)) = _; rw [show 7 * (k + 1) = 7 * k + 7 by omega, Nat.pow_add]
        have hq2 : k ≤ 8 → (2 : Nat) ^ (7 * k) ≤ 2 ^ 56 := fun h => Nat.pow_le_pow_right (by omega) (by omega)
        have hm : v + c % 128 * 2 ^ (7 * k) < 18446744073709551616 ∧ v + c % 128 * 2 ^ (7 * k) < 2 ^ (7 * k) * 128 := by
          have h1 : c % 128 * 2 ^ (7 * k) ≤ 127 * 2 ^ (7 * k) := Nat.mul_le_mul_right _ (by omega)
          refine ⟨?_, by omega⟩
          by_cases h9 : k = 9
          · have h2 : c % 128 * 2 ^ (7 * k) ≤ 1 * 2 ^ (7 * k) := Nat.mul_le_mul_right _ (by omega)
            omega
          · have := hq2 (by omega)
            omega
        have hW := Zig.word v c k hv hc256 hm.1
        obtain ⟨m, em⟩ : ∃ m, m = v + c % 128 * 2 ^ (7 * k) := ⟨_, rfl⟩
        rw [← em] at hm hW HW3
        by_cases hc : c < 128
        · have hE := HW2.out hc
          rw [show c * 2 ^ (7 * k) = c % 128 * 2 ^ (7 * k) by rw [Nat.mod_eq_of_lt hc], ← em] at hE
          have HE := Lib.hid hE
          have HZ := Lib.hid (zig_zag m hm.1)
          clear hE em hq hq2 hm hw HW2 HW3 HP hv
          go_wp2_with (first | ((with_reducible refine (HWR.out _).mono ?_); rintro e w1 ⟨rfl, rfl⟩) | ((with_reducible refine (HZ.out _).mono ?_); rintro e w1 ⟨rfl, rfl⟩))
          simp only [Exit.jump]
          refine bodyPost_ret (results_tmp3 rfl _ _ _) rfl ?_
          exact ⟨by rw [HE.out]; rfl, rfl⟩
        · have HE := Lib.hid (HW3.out hc)
          have h8 : k ≤ 8 := by omega
          have HM : Hid (m < 2 ^ (7 * (k + 1))) := by show m < _; rw [HP.out]; exact hm.2
          have hm1 := hm.1
          clear em hq hq2 hm hw HW2 HW3 HP hv
          go_wp2_with ((with_reducible refine (HWR.out _).mono ?_); rintro e w1 ⟨rfl, rfl⟩)
          go_step3
          rw [show (k : Int) + 1 = ((k + 1 : Nat) : Int) by omega]
          refine ⟨rfl, ⟨rfl, k + 1, m, _, _, _, _, _, _, _, _, _, _, _, _, _, _, _, _, _, _, _, _, _, _, _, _, _, _, _, _, _, _, _, _, _, rfl, by omega, by omega, HM.out, by rw [show n + 1 - (k + 1) = n - k by omega]; exact HE.out.symm⟩, ?_⟩
          simp [intOf]
          omega
    · have HE := Lib.hid (Zig.scan_end l (n + 1 - k) k v (by have := HN.out; omega))
      rw [hr] at HE
      obtain rfl : k = n := by omega
      clear hr
      go_wp2
      simp only [Exit.jump]
      refine bodyPost_ret (results_tmp3 rfl _ _ _) rfl ?_
      exact ⟨by rw [HE.out]; rfl, rfl⟩
end Go.Proofs.Ytapgcbjlgekpeaa
