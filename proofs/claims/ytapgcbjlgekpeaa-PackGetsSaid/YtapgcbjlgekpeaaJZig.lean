/- Contracts of layer 6 (zig) and of its reference. -/
import Derived.Test.YtapgcbjlgekpeaaJBase
import Derived.Lib.Zigzag
namespace Go.Proofs.Ytapgcbjlgekpeaa
open Go.ChangeShapes Go.WideShapes Go.ChangeAt Go.RowKit

/-- A number without a sign. -/
def Zig.zig (n : Int) : Nat := if 0 ≤ n then (2 * n).toNat else (2 * (-1 - n) + 1).toNat
def Zig.zag (w : Nat) : Int := if w % 2 = 0 then (w / 2 : Nat) else -1 - (w / 2 : Nat)
theorem Zig.zig_lt (n : Int) (h : I64 n) : Zig.zig n < 18446744073709551616 := by unfold Zig.zig; obtain ⟨h1, h2⟩ := h; split <;> omega
theorem Zig.zag_I64 (w : Nat) (h : w < 18446744073709551616) : I64 (Zig.zag w) := by unfold Zig.zag I64; split <;> omega
theorem Zig.zag_zig (n : Int) : Zig.zag (Zig.zig n) = n := by unfold Zig.zag Zig.zig; split <;> split <;> omega
theorem Zig.zig_zag (w : Nat) : Zig.zig (Zig.zag w) = w := by unfold Zig.zig Zig.zag; split <;> split <;> omega

theorem Zig.zig_int (n : Int) (h : I64 n) : bits .xor .u64 (IntKind.u64.wrap (wrap64 (n * 2))) (IntKind.u64.wrap (n / 9223372036854775808)) = (Zig.zig n : Nat) := by
  obtain ⟨l1, l2⟩ := h
  by_cases h0 : 0 ≤ n
  · have e1 : IntKind.u64.wrap (wrap64 (n * 2)) = (((2 * n).toNat : Nat) : Int) := by rw [IntKind.wrap_u64]; unfold wrap64; omega
    have e2 : IntKind.u64.wrap (n / 9223372036854775808) = ((0 : Nat) : Int) := by rw [IntKind.wrap_u64]; omega
    rw [e1, e2, u64_xor_nat _ _ (by omega) (by omega), Nat.xor_zero]
    unfold Zig.zig
    rw [if_pos h0]
  · have e1 : IntKind.u64.wrap (wrap64 (n * 2)) = (((2 * n + 18446744073709551616).toNat : Nat) : Int) := by rw [IntKind.wrap_u64]; unfold wrap64; omega
    have e2 : IntKind.u64.wrap (n / 9223372036854775808) = ((2 ^ 64 - 1 : Nat) : Int) := by rw [IntKind.wrap_u64]; omega
    rw [e1, e2, u64_xor_nat _ _ (by omega) (by omega), Nat.xor_comm, Lib.xor_ones64 _ (by omega)]
    unfold Zig.zig
    rw [if_neg h0]
    omega
theorem zig_zig (n : Int) (h : I64 n) (w : World) : Calls Try.prog 147 #[.int .i64 n] w fun e w' => e = .returned (.int .u64 (Zig.zig n)) ∧ w = w' := by
  have HE := Lib.hid (Zig.zig_int n h)
  go_enter Try.func147, Try.ntmps147
  go_wp2
  go_ret
  exact ⟨ret_int HE.out, rfl⟩
theorem ref_zig (n : Int) (h : I64 n) (w : World) : Calls Try.prog 150 #[.int .i64 n] w fun e w' => e = .returned (.int .u64 (Zig.zig n)) ∧ w = w' := by
  obtain ⟨l1, l2⟩ := h
  by_cases h0 : 0 ≤ n
  · have HE : Hid ((Zig.zig n : Int) = 2 * n) := by show (Zig.zig n : Int) = 2 * n; unfold Zig.zig; rw [if_pos h0]; omega
    go_enter Try.func150, Try.ntmps150
    go_wp2
    go_ret
    exact ⟨ret_int (by rw [HE.out]; try simp only [IntKind.wrap_u64]; omega), rfl⟩
  · have HE : Hid ((Zig.zig n : Int) = 2 * (-1 - n) + 1) := by show (Zig.zig n : Int) = _; unfold Zig.zig; rw [if_neg h0]; omega
    go_enter Try.func150, Try.ntmps150
    go_wp2
    go_ret
    exact ⟨ret_int (by rw [HE.out]; try simp only [IntKind.wrap_u64]; omega), rfl⟩
theorem Zig.xor_zero (x : Nat) (hx : x < 9223372036854775808) : bits .xor .i64 (x : Int) 0 = x := by
  show IntKind.i64.wrap ((BitVec.ofInt 64 (x : Int) ^^^ BitVec.ofInt 64 0).toNat : Int) = _
  have h1 : (BitVec.ofInt 64 0).toNat = 0 := by decide
  have h2 : (BitVec.ofInt 64 (x : Int)).toNat = x := by
    rw [BitVec.ofInt_natCast, BitVec.toNat_ofNat]; exact Nat.mod_eq_of_lt (by omega)
  rw [BitVec.toNat_xor, h1, h2, Nat.xor_zero, IntKind.wrap_i64]
  omega
theorem Zig.xor_ones (x : Nat) (hx : x < 9223372036854775808) : bits .xor .i64 (x : Int) (-1) = -1 - x := by
  have h := Lib.i64_not x hx
  have e : bits .xor .i64 (x : Int) (-1) = bits .xor .i64 (-1) (x : Int) := by
    show IntKind.i64.wrap ((BitVec.ofInt 64 (x : Int) ^^^ BitVec.ofInt 64 (-1)).toNat : Int) = IntKind.i64.wrap ((BitVec.ofInt 64 (-1) ^^^ BitVec.ofInt 64 (x : Int)).toNat : Int)
    rw [BitVec.xor_comm]
  rw [e, h]
  omega
theorem Zig.zag_int (v : Nat) (h : v < 18446744073709551616) : bits .xor .i64 ((v : Int) / 2) (wrap64 (-wrap64 (bits .and .u64 (v : Int) 1))) = Zig.zag v := by
  rw [Lib.u64_and1 _ (by omega) (by omega)]
  by_cases h0 : v % 2 = 0
  · have e : wrap64 (-wrap64 ((v : Int) % 2)) = 0 := by unfold wrap64; omega
    rw [e]
    have := Zig.xor_zero (v / 2) (by omega)
    rw [show ((v / 2 : Nat) : Int) = (v : Int) / 2 by omega] at this
    rw [this]
    unfold Zig.zag
    rw [if_pos h0]
    omega
  · have e : wrap64 (-wrap64 ((v : Int) % 2)) = -1 := by unfold wrap64; omega
    rw [e]
    have := Zig.xor_ones (v / 2) (by omega)
    rw [show ((v / 2 : Nat) : Int) = (v : Int) / 2 by omega] at this
    rw [this]
    unfold Zig.zag
    rw [if_neg h0]
    omega
theorem zig_zag (v : Nat) (h : v < 18446744073709551616) (w : World) : Calls Try.prog 180 #[.int .u64 v] w fun e w' => e = .returned (.int .i64 (Zig.zag v)) ∧ w = w' := by
  have HE := Lib.hid (Zig.zag_int v h)
  go_enter Try.func180, Try.ntmps180
  go_wp2
  go_ret
  exact ⟨ret_int HE.out, rfl⟩
theorem ref_zag (v : Nat) (h : v < 18446744073709551616) (w : World) : Calls Try.prog 151 #[.int .u64 v] w fun e w' => e = .returned (.int .i64 (Zig.zag v)) ∧ w = w' := by
  by_cases h0 : v % 2 = 0
  · have HE : Hid (Zig.zag v = (v / 2 : Nat)) := by show Zig.zag v = _; unfold Zig.zag; rw [if_pos h0]
    have h0i : (v : Int) % 2 = 0 := by omega
    go_enter Try.func151, Try.ntmps151
    go_wp2
    go_ret
    exact ⟨ret_int (by rw [HE.out]; simp), rfl⟩
  · have HE : Hid (Zig.zag v = -1 - (v / 2 : Nat)) := by show Zig.zag v = _; unfold Zig.zag; rw [if_neg h0]
    have h0i : (v : Int) % 2 = 1 := by omega
    go_enter Try.func151, Try.ntmps151
    go_wp2
    go_ret
    exact ⟨ret_int (by rw [HE.out]; simp), rfl⟩

/-- What bytes begin with, from place i on, the word so far v: the number, how many bytes, 0; or 1: wrong; 2: too short. -/
def Zig.scan (l : List Nat) : Nat → Nat → Nat → Int × Nat × Nat
  | 0, _, _ => (0, 0, 2)
  | f + 1, i, v =>
    if i < l.length then
      (if i = 9 ∧ 1 < l[i]?.getD 0 ∨ 0 < i ∧ l[i]?.getD 0 = 0 then (0, 0, 1)
       else if l[i]?.getD 0 < 128 then (Zig.zag (v + l[i]?.getD 0 % 128 * 2 ^ (7 * i)), i + 1, 0)
       else Zig.scan l f (i + 1) (v + l[i]?.getD 0 % 128 * 2 ^ (7 * i)))
    else (0, 0, 2)
def Zig.get (l : List Nat) : Int × Nat × Nat := Zig.scan l (l.length + 1) 0 0

theorem Zig.scan_end (l : List Nat) (f i v : Nat) (h : ¬ i < l.length) : Zig.scan l f i v = (0, 0, 2) := by
  cases f with
  | zero => rfl
  | succ f => unfold Zig.scan; rw [if_neg h]
theorem Zig.scan_wrong (l : List Nat) (f i v : Nat) (h : i < l.length) (hw : i = 9 ∧ 1 < l[i]?.getD 0 ∨ 0 < i ∧ l[i]?.getD 0 = 0) : Zig.scan l (f + 1) i v = (0, 0, 1) := by
  unfold Zig.scan; rw [if_pos h, if_pos hw]
theorem Zig.scan_last (l : List Nat) (f i v : Nat) (h : i < l.length) (hw : ¬ (i = 9 ∧ 1 < l[i]?.getD 0 ∨ 0 < i ∧ l[i]?.getD 0 = 0)) (hc : l[i]?.getD 0 < 128) :
    Zig.scan l (f + 1) i v = (Zig.zag (v + l[i]?.getD 0 * 2 ^ (7 * i)), i + 1, 0) := by
  unfold Zig.scan; rw [if_pos h, if_neg hw, if_pos hc, Nat.mod_eq_of_lt hc]
theorem Zig.scan_more (l : List Nat) (f i v : Nat) (h : i < l.length) (hw : ¬ (i = 9 ∧ 1 < l[i]?.getD 0 ∨ 0 < i ∧ l[i]?.getD 0 = 0)) (hc : ¬ l[i]?.getD 0 < 128) :
    Zig.scan l (f + 1) i v = Zig.scan l f (i + 1) (v + l[i]?.getD 0 % 128 * 2 ^ (7 * i)) := by
  conv => lhs; unfold Zig.scan
  rw [if_pos h, if_neg hw, if_neg hc]

/-- A slice of bytes. -/
def Bytes (w : World) (p : Option Addr) (l : List Nat) : Prop := Sl w p l.length 1 (fun j => .int .u8 (l[j]?.getD 0 : Nat))
theorem ret_three {a b c a' b' c' : Int} {k0 k1 k2 : IntKind} (h0 : a = a') (h1 : b = b') (h2 : c = c') : Ending.returned (.tuple #[.int k0 a, .int k1 b, .int k2 c]) = .returned (.tuple #[.int k0 a', .int k1 b', .int k2 c']) := by rw [h0, h1, h2]

set_option maxRecDepth 100000 in
theorem ref_get (p : Option Addr) (cap : Nat) (l : List Nat) (w : World) (hs : Bytes w p l) (hl : ∀ n ∈ l, n < 256) (hb : l.length ≤ 9223372036854775807) :
    Calls Try.prog 103 #[.slice p l.length cap] w fun e w' => e = .returned (.tuple #[.int .i64 (Zig.get l).1, .int .i64 (Zig.get l).2.1, .int .i64 (Zig.get l).2.2]) ∧ w = w' := by
  have HS := Lib.hid hs
  have HL : Hid (∀ j : Nat, l[j]?.getD 0 < 256) := fun j => by
    cases h : l[j]? with
    | none => simp
    | some n => exact hl n (List.mem_of_getElem? h)
  have HG : Hid (Zig.scan l (l.length + 1) 0 0 = Zig.get l) := rfl
  obtain ⟨r, hr⟩ : ∃ r, r = Zig.get l := ⟨_, rfl⟩
  rw [← hr] at HG ⊢
  obtain ⟨n, hn⟩ : ∃ n, n = l.length := ⟨_, rfl⟩
  rw [← hn] at HG hb ⊢
  have HN := Lib.hid hn
  clear hs hl hr hn
  go_enter Try.func103, Try.ntmps103
  go_wp2
  go_loop [5, 6, 7] (fun v o i => ∃ (k v' : Nat), k ≤ n ∧ k ≤ 9 ∧ i = .int .i64 k ∧ v = .int .u64 v' ∧ o = .int .u64 (2 ^ (7 * k) : Nat) ∧ v' < 2 ^ (7 * k) ∧ Zig.scan l (n + 1 - k) k v' = r) (fun _ _ i => n - (intOf i).toNat)
  case atStart => exact ⟨0, 0, by omega, by omega, rfl, rfl, rfl, by simp, HG.out⟩
  case round =>
    obtain ⟨k, v, hk, hk9, rfl, rfl, rfl, hv, hr⟩ := hrel
    by_cases hlt : k < n
    · have hkl : k < l.length := by have := HN.out; omega
      obtain ⟨b, off, rfl, _, hc⟩ := HS.out.pos (by omega)
      have hcell := hc k (by omega)
      clear hc
      have hc256 := HL.out k
      rw [show n + 1 - k = (n - k) + 1 by omega] at hr
      have hw1 := Zig.scan_wrong l (n - k) k v hkl
      have hw2 := Zig.scan_last l (n - k) k v hkl
      have hw3 := Zig.scan_more l (n - k) k v hkl
      rw [hr] at hw1 hw2 hw3
      obtain ⟨c, ec⟩ : ∃ c, c = l[k]?.getD 0 := ⟨_, rfl⟩
      rw [← ec] at hcell hc256 hw1 hw2 hw3
      have hq : (2 : Nat) ^ (7 * k) ≤ 2 ^ 63 := Nat.pow_le_pow_right (by omega) (by omega)
      have HP : Hid ((2 : Nat) ^ (7 * (k + 1)) = 2 ^ (7 * k) * 128) := by show (2 : Nat) ^ (7 * (k + 1)) = _; rw [show 7 * (k + 1) = 7 * k + 7 by omega, Nat.pow_add]
      have hq2 : k ≤ 8 → (2 : Nat) ^ (7 * k) ≤ 2 ^ 56 := fun h => Nat.pow_le_pow_right (by omega) (by omega)
      have hp : 0 < (2 : Nat) ^ (7 * k) := Nat.two_pow_pos _
      obtain ⟨o, eo⟩ : ∃ o, o = 2 ^ (7 * k) := ⟨_, rfl⟩
      rw [← eo] at hq HP hq2 hp hv hw2 hw3 ⊢
      clear ec eo hr hkl
      by_cases hw : k = 9 ∧ 1 < c ∨ 0 < k ∧ c = 0
      · have HE := Lib.hid (hw1 hw)
        clear hw1 hw2 hw3
        by_cases h9 : k = 9
        · subst h9
          by_cases h1 : 1 < c
          · go_wp2
            refine bodyPost_ret (results_tmp3 rfl _ _ _) rfl ?_
            exact ⟨by rw [HE.out]; rfl, rfl⟩
          · obtain rfl : c = 0 := by omega
            go_wp2
            refine bodyPost_ret (results_tmp3 rfl _ _ _) rfl ?_
            exact ⟨by rw [HE.out]; rfl, rfl⟩
        · obtain ⟨h0, rfl⟩ : 0 < k ∧ c = 0 := by omega
          have h9i : ¬ (k : Int) = 9 := by omega
          go_wp2
          refine bodyPost_ret (results_tmp3 rfl _ _ _) rfl ?_
          exact ⟨by rw [HE.out]; rfl, rfl⟩
      · have hm : c % 128 * o + v < 18446744073709551616 ∧ (k ≤ 8 → c % 128 * o + v < o * 128) := by
          have h1 : c % 128 * o ≤ 127 * o := Nat.mul_le_mul_right _ (by omega)
          refine ⟨?_, fun _ => by omega⟩
          by_cases h9 : k = 9
          · have h2 : c % 128 * o ≤ 1 * o := Nat.mul_le_mul_right _ (by omega)
            omega
          · have := hq2 (by omega)
            omega
        obtain ⟨m, em⟩ : ∃ m, m = c % 128 * o := ⟨_, rfl⟩
        have emi : (c : Int) % 128 * o = (m : Int) := by rw [em]; simp
        rw [← em] at hm hw3
        by_cases hc : c < 128
        · have he := hw2 hw hc
          rw [show c * o = c % 128 * o by rw [Nat.mod_eq_of_lt hc], ← em] at he
          have hz : ∀ w, Calls Try.prog 151 #[.int .u64 ((v : Int) + m)] w fun e w' => e = .returned (.int .i64 (Zig.zag (v + m))) ∧ w = w' := by
            rw [show (v : Int) + m = ((v + m : Nat) : Int) by omega]; exact ref_zag (v + m) (by omega)
          have HE := Lib.hid he
          have HZ := Lib.hid hz
          have hm1 := hm.1
          clear hw1 hw2 hw3 em he hz hm
          by_cases h9 : k = 9
          · subst h9
            have hc1 : ¬ (1 : Int) < c := by omega
            have hc0 : ¬ (c : Int) = 0 := by omega
            clear hw
            go_wp2_with (with_reducible refine (HZ.out _).mono ?_; rintro e w1 ⟨rfl, rfl⟩)
            refine bodyPost_ret (results_tmp3 rfl _ _ _) rfl ?_
            exact ⟨by rw [HE.out]; rfl, rfl⟩
          · have h9i : ¬ (k : Int) = 9 := by omega
            by_cases h0 : 0 < k
            · have hc0 : ¬ (c : Int) = 0 := by omega
              go_wp2_with (with_reducible refine (HZ.out _).mono ?_; rintro e w1 ⟨rfl, rfl⟩)
              refine bodyPost_ret (results_tmp3 rfl _ _ _) rfl ?_
              exact ⟨by rw [HE.out]; rfl, rfl⟩
            · obtain rfl : k = 0 := by omega
              rw [Nat.add_zero] at hcell
              go_wp2_with (with_reducible refine (HZ.out _).mono ?_; rintro e w1 ⟨rfl, rfl⟩)
              refine bodyPost_ret (results_tmp3 rfl _ _ _) rfl ?_
              exact ⟨by rw [HE.out]; rfl, rfl⟩
        · have HE := Lib.hid (hw3 hw hc)
          have h9 : k ≤ 8 := by omega
          have hm2 := hm.2 h9
          have hm1 := hm.1
          have ho := hq2 h9
          clear hw1 hw2 hw3 em hm
          have h9i : ¬ (k : Int) = 9 := by omega
          by_cases h0 : 0 < k
          · have hc0 : ¬ (c : Int) = 0 := by omega
            go_wp2
            go_round
            case rel => exact ⟨k + 1, v + m, by omega, by omega, by go_num, int_eq (by omega), int_eq (by rw [HP.out]; omega), by rw [HP.out]; omega, by rw [show n + 1 - (k + 1) = n - k by omega]; exact HE.out.symm⟩
            case measure => simp [intOf]; omega
          · obtain rfl : k = 0 := by omega
            rw [Nat.add_zero] at hcell
            go_wp2
            go_round
            case rel => exact ⟨1, v + m, by omega, by omega, by go_num, int_eq (by omega), int_eq (by have := HP.out; omega), by have := HP.out; omega, by rw [show n + 1 - 1 = n - 0 by omega]; exact HE.out.symm⟩
            case measure => simp [intOf]; omega
    · have HE := Lib.hid (Zig.scan_end l (n + 1 - k) k v (by have := HN.out; omega))
      rw [hr] at HE
      clear hr
      go_wp2
      refine bodyPost_ret (results_tmp3 rfl _ _ _) rfl ?_
      exact ⟨by rw [HE.out]; rfl, rfl⟩
def Zig.bad (k c : Nat) : Bool := decide (k = 9 ∧ 1 < c ∨ 0 < k ∧ c = 0)
theorem zig_wrong (k c : Nat) (hk : k ≤ 9223372036854775807) (hc : c < 256) (w : World) :
    Calls Try.prog 179 #[.int .i64 k, .int .u8 c] w fun e w' => e = .returned (.bool (Zig.bad k c)) ∧ w = w' := by
  by_cases h9 : k = 9
  · subst h9
    by_cases h1 : 1 < c
    · have HE : Hid (Zig.bad 9 c = true) := decide_eq_true (.inl ⟨rfl, h1⟩)
      have h1i : (1 : Int) < c := by omega
      go_enter Try.func179, Try.ntmps179
      go_wp2
      go_ret
      exact ⟨ret_bool HE.out.symm, rfl⟩
    · by_cases h0 : c = 0
      · subst h0
        have HE : Hid (Zig.bad 9 0 = true) := rfl
        go_enter Try.func179, Try.ntmps179
        go_wp2
        go_ret
        exact ⟨ret_bool HE.out.symm, rfl⟩
      · have HE : Hid (Zig.bad 9 c = false) := decide_eq_false (by omega)
        have h1i : ¬ (1 : Int) < c := by omega
        have h0i : ¬ (c : Int) = 0 := by omega
        go_enter Try.func179, Try.ntmps179
        go_wp2
        go_ret
        exact ⟨ret_bool (by rw [HE.out]; simpa using h0i), rfl⟩
  · have h9i : ¬ (k : Int) = 9 := by omega
    by_cases hp : 0 < k
    · by_cases h0 : c = 0
      · subst h0
        have HE : Hid (Zig.bad k 0 = true) := decide_eq_true (.inr ⟨hp, rfl⟩)
        go_enter Try.func179, Try.ntmps179
        go_wp2
        go_ret
        exact ⟨ret_bool HE.out.symm, rfl⟩
      · have HE : Hid (Zig.bad k c = false) := decide_eq_false (by omega)
        have h0i : ¬ (c : Int) = 0 := by omega
        go_enter Try.func179, Try.ntmps179
        go_wp2
        go_ret
        exact ⟨ret_bool (by rw [HE.out]; simpa using h0i), rfl⟩
    · obtain rfl : k = 0 := by omega
      have HE : Hid (Zig.bad 0 c = false) := decide_eq_false (by omega)
      go_enter Try.func179, Try.ntmps179
      go_wp2
      go_ret
      exact ⟨ret_bool HE.out.symm, rfl⟩
end Go.Proofs.Ytapgcbjlgekpeaa
