/- Contracts of layer 2's functions (wide). -/
import Derived.Test.YtldhbgefpfmkmaaGreatJRef02c
namespace Go.Proofs.YtldhbgefpfmkmaaGreat
open Go.ChangeShapes Go.WideShapes Go.ChangeAt Go.RowKit

/-- A number of 128 bits as two words. -/
def two (x : Nat) : Value := .agg #[.int .u64 (x / 18446744073709551616 : Nat), .int .u64 (x % 18446744073709551616 : Nat)]
theorem two_eq {a b : Int} {x : Nat} (h1 : a = (x / 18446744073709551616 : Nat)) (h2 : b = (x % 18446744073709551616 : Nat)) : Value.agg #[.int .u64 a, .int .u64 b] = two x := by
  unfold two; rw [h1, h2]
theorem ret_agg {a b : Value} (h : a = b) : Ending.returned a = .returned b := by rw [h]
theorem two_words (h l : Nat) (hl : l < 18446744073709551616) : (h * 18446744073709551616 + l) / 18446744073709551616 = h ∧ (h * 18446744073709551616 + l) % 18446744073709551616 = l := by omega

theorem twoInfo : (Tryz.prog.info? 108).map (·.size) = some 2 := by kernel_rfl

theorem and32 (x : Int) (h0 : 0 ≤ x) (h1 : x < 18446744073709551616) : bits .and .u64 x 4294967295 = x % 4294967296 := by
  obtain ⟨n, rfl⟩ : ∃ n : Nat, x = n := ⟨x.toNat, by omega⟩
  have := u64_and_nat n 4294967295 (by omega) (by omega)
  rw [show ((4294967295 : Nat) : Int) = 4294967295 from rfl] at this
  rw [this, show (4294967295 : Nat) = 2 ^ 32 - 1 from rfl, Nat.and_two_pow_sub_one_eq_mod]
  omega

theorem or_low (x y : Int) (k : Nat) (h0 : 0 ≤ x) (h1 : x * 2 ^ k < 18446744073709551616) (h2 : 0 ≤ y) (h3 : y < 2 ^ k) (hk : k ≤ 64) : bits .or .u64 (x * 2 ^ k) y = x * 2 ^ k + y := by
  obtain ⟨n, rfl⟩ : ∃ n : Nat, x = n := ⟨x.toNat, by omega⟩
  obtain ⟨m, rfl⟩ : ∃ n : Nat, y = n := ⟨y.toNat, by omega⟩
  have hc : ((2 ^ k : Nat) : Int) = 2 ^ k := by simp
  have hp : (2 : Nat) ^ k ≤ 2 ^ 64 := Nat.pow_le_pow_right (by omega) hk
  have hx : ((n * 2 ^ k : Nat) : Int) = n * 2 ^ k := by simp
  rw [← hx] at h1 ⊢
  rw [← hc] at h3
  rw [u64_or_nat _ _ (by omega) (by omega), Nat.mul_comm, ← Nat.two_pow_add_eq_or_of_lt (by omega)]
  omega

theorem wide_words (a1 a0 b1 b0 : Nat) (ha1 : a1 < 4294967296) (ha0 : a0 < 4294967296) (hb1 : b1 < 4294967296) (hb0 : b0 < 4294967296) :
    ∃ bottom left right : Nat, bottom = a0 * b0 ∧ left = a1 * b0 + bottom / 4294967296 ∧ right = a0 * b1 + left % 4294967296 ∧
      bottom < 18446744073709551616 ∧ left < 18446744073709551616 ∧ right < 18446744073709551616 ∧ a1 * b1 + left / 4294967296 + right / 4294967296 < 18446744073709551616 ∧
      (a1 * 4294967296 + a0) * (b1 * 4294967296 + b0) = (a1 * b1 + left / 4294967296 + right / 4294967296) * 18446744073709551616 + ((right % 4294967296) * 4294967296 + bottom % 4294967296) := by
  have p : ∀ x y : Nat, x < 4294967296 → y < 4294967296 → x * y ≤ 18446744065119617025 := fun x y hx hy => by
    have : x * y ≤ 4294967295 * 4294967295 := Nat.mul_le_mul (by omega) (by omega)
    omega
  have p1 := p a1 b1 ha1 hb1
  have p2 := p a1 b0 ha1 hb0
  have p3 := p a0 b1 ha0 hb1
  have p4 := p a0 b0 ha0 hb0
  refine ⟨_, _, _, rfl, rfl, rfl, ?_, ?_, ?_, ?_, ?_⟩
  · omega
  · omega
  · omega
  · omega
  · rw [Nat.add_mul, Nat.mul_add, Nat.mul_add]
    rw [show a1 * 4294967296 * (b1 * 4294967296) = (a1 * b1) * 18446744073709551616 by rw [Nat.mul_mul_mul_comm],
      show a1 * 4294967296 * b0 = (a1 * b0) * 4294967296 by rw [Nat.mul_right_comm], show a0 * (b1 * 4294967296) = (a0 * b1) * 4294967296 by rw [Nat.mul_assoc]]
    generalize a1 * b1 = x at *
    generalize a1 * b0 = y at *
    generalize a0 * b1 = z at *
    generalize a0 * b0 = t at *
    omega

theorem ret_row {fn : Func} {p : Tmp} {ty : TypeId} {W : World} {R : Ending → World → Prop} {a : Act} (h : fn.results = #[.cell p ty]) (hd : a.defers = []) (g : Nat) (t : TypeId) (cs : Array Value) (fr : Nat × Nat) (d : Array Field) (n : Nat)
    (hp : a.tmps.getD p undef = .pointer (some ⟨g, 0, none⟩)) (hg : W.heap[g]? = some (.cells cs t fr)) (hu : Tryz.prog.underlying ty = some (.struct d))
    (hi : (Tryz.prog.info? ty).map (·.size) = some n) (hn : cs.size = n) (hR : R (.returned (.agg cs)) W) : bodyPost Tryz.prog fn R .ret a W :=
  bodyPost_ret (results_cell_row h _ _ g t cs fr _ hp hg hu rfl (by rw [hn]; exact hi)) hd hR

set_option maxRecDepth 100000 in
theorem wide_mul_walk (a b a1 a0 b1 b0 bt bh bl p10 lf lh ll p01 rt rh rs p11 s1 hi lo : Nat) (w : World)
    (x1 : (a : Int) / 4294967296 = a1) (x2 : bits .and .u64 (a : Int) 4294967295 = a0) (x3 : (b : Int) / 4294967296 = b1) (x4 : bits .and .u64 (b : Int) 4294967295 = b0)
    (x5 : IntKind.u64.wrap ((a0 : Int) * b0) = bt) (x6 : (bt : Int) / 4294967296 = bh) (x7 : IntKind.u64.wrap ((a1 : Int) * b0) = p10) (x8 : IntKind.u64.wrap ((p10 : Int) + bh) = lf)
    (x9 : IntKind.u64.wrap ((a0 : Int) * b1) = p01) (y1 : bits .and .u64 (lf : Int) 4294967295 = ll) (y2 : IntKind.u64.wrap ((p01 : Int) + ll) = rt)
    (y3 : IntKind.u64.wrap ((a1 : Int) * b1) = p11) (y4 : (lf : Int) / 4294967296 = lh) (y5 : IntKind.u64.wrap ((p11 : Int) + lh) = s1) (y6 : (rt : Int) / 4294967296 = rh) (y7 : IntKind.u64.wrap ((s1 : Int) + rh) = hi)
    (y8 : IntKind.u64.wrap ((rt : Int) * 4294967296) = rs) (y9 : bits .and .u64 (bt : Int) 4294967295 = bl) (z1 : bits .or .u64 (rs : Int) bl = lo) :
    Calls Tryz.prog 64 #[.int .u64 a, .int .u64 b] w fun e w' => e = .returned (.agg #[.int .u64 hi, .int .u64 lo]) ∧ Below w.heap.size w w' := by
  go_enter Tryz.func64, Tryz.ntmps64
  go_wp2
  exact ret_row rfl rfl w.heap.size 108 _ (0, 0) _ 2 rfl (heap_alloc_at _ _ _ rfl) Tryz.underlying108 twoInfo rfl ⟨rfl, below1 _ _⟩

theorem u64_wrap_nat (n : Nat) (h : n < 18446744073709551616) (x : Int) (hx : x = n) : IntKind.u64.wrap x = n := by
  rw [hx]; exact IntWalk.u64_in _ (by omega)

theorem wide_mul (a b : Nat) (ha : a < 18446744073709551616) (hb : b < 18446744073709551616) (w : World) :
    Calls Tryz.prog 64 #[.int .u64 a, .int .u64 b] w fun e w' => e = .returned (two (a * b)) ∧ Below w.heap.size w w' := by
  obtain ⟨a1, ha1⟩ : ∃ x, x = a / 4294967296 := ⟨_, rfl⟩
  obtain ⟨a0, ha0⟩ : ∃ x, x = a % 4294967296 := ⟨_, rfl⟩
  obtain ⟨b1, hb1⟩ : ∃ x, x = b / 4294967296 := ⟨_, rfl⟩
  obtain ⟨b0, hb0⟩ : ∃ x, x = b % 4294967296 := ⟨_, rfl⟩
  obtain ⟨bt, lf, rt, e1, e2, e3, l1, l2, l3, l4, hp⟩ := wide_words a1 a0 b1 b0 (by omega) (by omega) (by omega) (by omega)
  rw [show a1 * 4294967296 + a0 = a by omega, show b1 * 4294967296 + b0 = b by omega] at hp
  obtain ⟨p10, h10⟩ : ∃ x, x = a1 * b0 := ⟨_, rfl⟩
  obtain ⟨p01, h01⟩ : ∃ x, x = a0 * b1 := ⟨_, rfl⟩
  obtain ⟨p11, h11⟩ : ∃ x, x = a1 * b1 := ⟨_, rfl⟩
  rw [← h10] at e2
  rw [← h01] at e3
  rw [← h11] at l4 hp
  have k := wide_mul_walk a b a1 a0 b1 b0 bt (bt / 4294967296) (bt % 4294967296) p10 lf (lf / 4294967296) (lf % 4294967296) p01 rt (rt / 4294967296) (rt % 4294967296 * 4294967296) p11 (p11 + lf / 4294967296)
    (p11 + lf / 4294967296 + rt / 4294967296) (rt % 4294967296 * 4294967296 + bt % 4294967296) w
    (by omega) (by rw [and32 a (by omega) (by omega)]; omega) (by omega) (by rw [and32 b (by omega) (by omega)]; omega)
    (u64_wrap_nat _ l1 _ (by rw [e1]; simp)) (by omega) (u64_wrap_nat _ (by omega) _ (by rw [h10]; simp)) (u64_wrap_nat _ l2 _ (by omega))
    (u64_wrap_nat _ (by omega) _ (by rw [h01]; simp)) (by rw [and32 lf (by omega) (by omega)]; omega) (u64_wrap_nat _ l3 _ (by omega))
    (u64_wrap_nat _ (by omega) _ (by rw [h11]; simp)) (by omega) (u64_wrap_nat _ (by omega) _ (by omega)) (by omega) (u64_wrap_nat _ (by omega) _ (by omega))
    (by rw [IntKind.wrap_u64]; omega) (by rw [and32 bt (by omega) (by omega)]; omega)
    (by have := or_low (rt % 4294967296 : Nat) (bt % 4294967296 : Nat) 32 (by omega) (by omega) (by omega) (by omega) (by omega); rw [show ((rt % 4294967296 * 4294967296 : Nat) : Int) = (rt % 4294967296 : Nat) * 2 ^ 32 by omega, this]; omega)
  refine k.mono fun e w' ⟨he, hbw⟩ => ⟨?_, hbw⟩
  rw [he]
  exact ret_agg (two_eq (by rw [hp]; omega) (by rw [hp]; omega))
theorem ret_row2 {fn : Func} {p u : Tmp} {ty : TypeId} {W : World} {R : Ending → World → Prop} {a : Act} (h : fn.results = #[.cell p ty, .tmp u]) (hd : a.defers = []) (g : Nat) (t : TypeId) (cs : Array Value) (fr : Nat × Nat) (d : Array Field) (n : Nat) (x : Value)
    (hp : a.tmps.getD p undef = .pointer (some ⟨g, 0, none⟩)) (hx : a.tmps.getD u undef = x) (hg : W.heap[g]? = some (.cells cs t fr)) (hu : Tryz.prog.underlying ty = some (.struct d))
    (hi : (Tryz.prog.info? ty).map (·.size) = some n) (hn : cs.size = n) (hR : R (.returned (.tuple #[.agg cs, x])) W) : bodyPost Tryz.prog fn R .ret a W :=
  bodyPost_ret (results_row_tmp h _ _ g t cs fr _ n x hx hp hg hu rfl hi hn) hd hR

def W2 (h l : Nat) : Nat := h * 18446744073709551616 + l

theorem two_W2 (h l : Nat) (hl : l < 18446744073709551616) : two (W2 h l) = .agg #[.int .u64 h, .int .u64 l] := by
  unfold two W2
  rw [(two_words h l hl).1, (two_words h l hl).2]

set_option maxHeartbeats 1000000 in
set_option maxRecDepth 100000 in
theorem wide_add (xh xl yh yl : Nat) (hxh : xh < 18446744073709551616) (hxl : xl < 18446744073709551616) (hyh : yh < 18446744073709551616) (hyl : yl < 18446744073709551616) (w : World) :
    Calls Tryz.prog 109 #[.agg #[.int .u64 xh, .int .u64 xl], .agg #[.int .u64 yh, .int .u64 yl]] w fun e w' =>
      e = .returned (.tuple #[two (Bits.sum (W2 xh xl) (W2 yh yl)), .bool (Bits.fits (W2 xh xl) (W2 yh yl))]) ∧ Below w.heap.size w w' := by
  obtain ⟨lo, hlo⟩ : ∃ lo : Nat, lo = (xl + yl) % 18446744073709551616 := ⟨_, rfl⟩
  obtain ⟨hi, hhi⟩ : ∃ hi : Nat, hi = (xh + yh) % 18446744073709551616 := ⟨_, rfl⟩
  have x1 : IntKind.u64.wrap ((xl : Int) + yl) = lo := by rw [IntKind.wrap_u64]; omega
  have x2 : IntKind.u64.wrap ((xh : Int) + yh) = hi := by rw [IntKind.wrap_u64]; omega
  by_cases hc : xl + yl < 18446744073709551616
  · have c1 : ¬ (lo < xl) := by omega
    by_cases hh : xh + yh < 18446744073709551616
    · have c2 : ¬ hi < xh := by omega
      have HV : Hid (Bits.sum (W2 xh xl) (W2 yh yl) = W2 hi lo ∧ Bits.fits (W2 xh xl) (W2 yh yl) = true) := by
        constructor
        · unfold Bits.sum W2; rw [if_pos (by omega)]; omega
        · unfold Bits.fits W2; rw [decide_eq_true]; omega
      have hlo2 : lo < 18446744073709551616 := by omega
      have hhi2 : hi < 18446744073709551616 := by omega
      clear hlo hhi hc hh
      go_enter Tryz.func109, Tryz.ntmps109
      go_wp2
      exact ret_row2 rfl rfl (w.heap.size + 1 + 1) 108 _ (0, 0) _ 2 (.bool true) rfl rfl (heap_alloc_at _ _ _ (by simp)) Tryz.underlying108 twoInfo rfl ⟨ret_two (by rw [HV.out.1, two_W2 _ _ hlo2]; try rfl) (bool_eq HV.out.2.symm), below3 _ _ _ _⟩
    · have c2 : hi < xh := by omega
      have HV : Hid (Bits.sum (W2 xh xl) (W2 yh yl) = 0 ∧ Bits.fits (W2 xh xl) (W2 yh yl) = false) := by
        constructor
        · unfold Bits.sum W2; rw [if_neg (by omega)]
        · unfold Bits.fits W2; rw [decide_eq_false]; omega
      have hlo2 : lo < 18446744073709551616 := by omega
      clear hlo hhi hc hh
      go_enter Tryz.func109, Tryz.ntmps109
      go_wp2
      exact ret_row2 rfl rfl (w.heap.size + 1 + 1) 108 _ (0, 0) _ 2 (.bool false) rfl rfl (heap_alloc_at _ _ _ (by simp)) Tryz.underlying108 twoInfo rfl ⟨ret_two (by rw [HV.out.1]; try rfl) (bool_eq HV.out.2.symm), below3 _ _ _ _⟩
  · have c1 : lo < xl := by omega
    by_cases hh : xh + yh + 1 < 18446744073709551616
    · have c2 : ¬ hi < xh := by omega
      have HV : Hid (Bits.sum (W2 xh xl) (W2 yh yl) = W2 (hi + 1) lo ∧ Bits.fits (W2 xh xl) (W2 yh yl) = true) := by
        constructor
        · unfold Bits.sum W2; rw [if_pos (by omega)]; omega
        · unfold Bits.fits W2; rw [decide_eq_true]; omega
      have hlo2 : lo < 18446744073709551616 := by omega
      have hhi2 : hi < 18446744073709551615 := by omega
      clear hlo hhi hc hh
      go_enter Tryz.func109, Tryz.ntmps109
      go_wp2
      exact ret_row2 rfl rfl (w.heap.size + 1 + 1) 108 _ (0, 0) _ 2 (.bool true) rfl rfl (heap_alloc_at _ _ _ (by simp)) Tryz.underlying108 twoInfo rfl ⟨ret_two (by rw [HV.out.1, two_W2 _ _ hlo2]; try rfl) (bool_eq HV.out.2.symm), below3 _ _ _ _⟩
    by_cases hg : xh + yh < 18446744073709551616
    · have c2 : ¬ hi < xh := by omega
      have x3 : IntKind.u64.wrap ((hi : Int) + 1) = 0 := by rw [IntKind.wrap_u64]; omega
      have hi0 : 0 < hi := by omega
      have HV : Hid (Bits.sum (W2 xh xl) (W2 yh yl) = 0 ∧ Bits.fits (W2 xh xl) (W2 yh yl) = false) := by
        constructor
        · unfold Bits.sum W2; rw [if_neg (by omega)]
        · unfold Bits.fits W2; rw [decide_eq_false]; omega
      have hlo2 : lo < 18446744073709551616 := by omega
      clear hlo hhi hc hh hg
      go_enter Tryz.func109, Tryz.ntmps109
      go_wp2
      exact ret_row2 rfl rfl (w.heap.size + 1 + 1) 108 _ (0, 0) _ 2 (.bool false) rfl rfl (heap_alloc_at _ _ _ (by simp)) Tryz.underlying108 twoInfo rfl ⟨ret_two (by rw [HV.out.1]; try rfl) (bool_eq HV.out.2.symm), below3 _ _ _ _⟩
    · have c2 : hi < xh := by omega
      have HV : Hid (Bits.sum (W2 xh xl) (W2 yh yl) = 0 ∧ Bits.fits (W2 xh xl) (W2 yh yl) = false) := by
        constructor
        · unfold Bits.sum W2; rw [if_neg (by omega)]
        · unfold Bits.fits W2; rw [decide_eq_false]; omega
      have hlo2 : lo < 18446744073709551616 := by omega
      clear hlo hhi hc hh hg
      go_enter Tryz.func109, Tryz.ntmps109
      go_wp2
      exact ret_row2 rfl rfl (w.heap.size + 1 + 1) 108 _ (0, 0) _ 2 (.bool false) rfl rfl (heap_alloc_at _ _ _ (by simp)) Tryz.underlying108 twoInfo rfl ⟨ret_two (by rw [HV.out.1]; try rfl) (bool_eq HV.out.2.symm), below3 _ _ _ _⟩

set_option maxRecDepth 100000 in
theorem wide_double (h l : Nat) (_ : h < 18446744073709551616) (hl : l < 18446744073709551616) (w : World) :
    Calls Tryz.prog 86 #[.agg #[.int .u64 h, .int .u64 l]] w fun e w' => e = .returned (two (2 * W2 h l % 340282366920938463463374607431768211456)) ∧ Below w.heap.size w w' := by
  obtain ⟨hi, hhi⟩ : ∃ x : Nat, x = h * 2 % 18446744073709551616 := ⟨_, rfl⟩
  obtain ⟨lo, hlo⟩ : ∃ x : Nat, x = l * 2 % 18446744073709551616 := ⟨_, rfl⟩
  obtain ⟨c, hc⟩ : ∃ x : Nat, x = l / 9223372036854775808 := ⟨_, rfl⟩
  have x1 : IntKind.u64.wrap ((h : Int) * 2) = hi := by rw [IntKind.wrap_u64]; omega
  have x2 : IntKind.u64.wrap ((l : Int) * 2) = lo := by rw [IntKind.wrap_u64]; omega
  have x3 : (l : Int) / 9223372036854775808 = c := by omega
  have x4 : bits .or .u64 (hi : Int) (c : Int) = (hi + c : Nat) := by
    have := or_low ((hi / 2 : Nat) : Int) (c : Int) 1 (by omega) (by omega) (by omega) (by omega) (by omega)
    rw [show (hi : Int) = ((hi / 2 : Nat) : Int) * 2 ^ 1 by omega, this]
    omega
  have HV : Hid (two (2 * W2 h l % 340282366920938463463374607431768211456) = .agg #[.int .u64 (hi + c : Nat), .int .u64 lo]) := by
    show two _ = _
    rw [← two_W2 _ _ (by omega)]
    congr 1
    unfold W2
    omega
  clear hhi hlo hc
  go_enter Tryz.func86, Tryz.ntmps86
  go_wp2
  exact ret_row rfl rfl (w.heap.size + 1) 108 _ (0, 0) _ 2 rfl (heap_alloc_at _ _ _ (by simp)) Tryz.underlying108 twoInfo rfl ⟨ret_agg (by rw [HV.out]; try rfl), below2 _ _ _⟩

set_option maxRecDepth 100000 in
theorem wide_cmp (xh xl yh yl : Nat) (hxl : xl < 18446744073709551616) (hyl : yl < 18446744073709551616) (w : World) :
    Calls Tryz.prog 110 #[.agg #[.int .u64 xh, .int .u64 xl], .agg #[.int .u64 yh, .int .u64 yl]] w fun e w' =>
      e = .returned (.int .i64 (Bits.cmp (W2 xh xl) (W2 yh yl))) ∧ Below w.heap.size w w' := by
  by_cases e1 : xh = yh
  · by_cases e2 : xl = yl
    · subst e1 e2
      have HV : Hid (Bits.cmp (W2 xh xl) (W2 xh xl) = 0) := by show Bits.cmp _ _ = 0; unfold Bits.cmp; rw [if_neg (by omega), if_neg (by omega)]
      go_enter Tryz.func110, Tryz.ntmps110
      go_wp2
      go_ret
      exact ⟨ret_int HV.out.symm, below2 _ _ _⟩
    · subst e1
      by_cases e3 : xl < yl
      · have HV : Hid (Bits.cmp (W2 xh xl) (W2 xh yl) = -1) := by show Bits.cmp _ _ = -1; unfold Bits.cmp W2; rw [if_pos (by omega)]
        go_enter Tryz.func110, Tryz.ntmps110
        go_wp2
        all_goals go_ret
        all_goals exact ⟨ret_int HV.out.symm, below2 _ _ _⟩
      · have HV : Hid (Bits.cmp (W2 xh xl) (W2 xh yl) = 1) := by show Bits.cmp _ _ = 1; unfold Bits.cmp W2; rw [if_neg (by omega), if_pos (by omega)]
        go_enter Tryz.func110, Tryz.ntmps110
        go_wp2
        all_goals go_ret
        all_goals exact ⟨ret_int HV.out.symm, below2 _ _ _⟩
  · by_cases e3 : xh < yh
    · have HV : Hid (Bits.cmp (W2 xh xl) (W2 yh yl) = -1) := by show Bits.cmp _ _ = -1; unfold Bits.cmp W2; rw [if_pos (by omega)]
      go_enter Tryz.func110, Tryz.ntmps110
      go_wp2
      all_goals go_ret
      all_goals exact ⟨ret_int HV.out.symm, below2 _ _ _⟩
    · have HV : Hid (Bits.cmp (W2 xh xl) (W2 yh yl) = 1) := by show Bits.cmp _ _ = 1; unfold Bits.cmp W2; rw [if_neg (by omega), if_pos (by omega)]
      go_enter Tryz.func110, Tryz.ntmps110
      go_wp2
      all_goals go_ret
      all_goals exact ⟨ret_int HV.out.symm, below2 _ _ _⟩

set_option maxRecDepth 100000 in
theorem wide_small (xh xl : Nat) (hxl : xl < 18446744073709551616) (w : World) :
    Calls Tryz.prog 65 #[.agg #[.int .u64 xh, .int .u64 xl]] w fun e w' =>
      e = .returned (.int .i64 (Bits.small (W2 xh xl))) ∧ Below w.heap.size w w' := by
  by_cases e1 : 0 < xh
  · have HV : Hid (Bits.small (W2 xh xl) = 9223372036854775807) := by show Bits.small _ = _; unfold Bits.small W2; rw [if_neg (by omega)]
    go_enter Tryz.func65, Tryz.ntmps65
    go_wp2
    all_goals go_ret
    all_goals exact ⟨ret_int HV.out.symm, below1 _ _⟩
  · obtain rfl : xh = 0 := by omega
    by_cases e2 : xl ≤ 9223372036854775807
    · have HV : Hid (Bits.small (W2 0 xl) = xl) := by show Bits.small _ = _; unfold Bits.small W2; rw [if_pos (by omega)]; omega
      go_enter Tryz.func65, Tryz.ntmps65
      go_wp2
      all_goals go_ret
      all_goals exact ⟨ret_int HV.out.symm, below1 _ _⟩
    · have HV : Hid (Bits.small (W2 0 xl) = 9223372036854775807) := by show Bits.small _ = _; unfold Bits.small W2; rw [if_neg (by omega)]
      go_enter Tryz.func65, Tryz.ntmps65
      go_wp2
      all_goals go_ret
      all_goals exact ⟨ret_int HV.out.symm, below1 _ _⟩
end Go.Proofs.YtldhbgefpfmkmaaGreat
