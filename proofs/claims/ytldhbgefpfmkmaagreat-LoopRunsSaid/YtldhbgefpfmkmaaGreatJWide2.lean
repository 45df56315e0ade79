/- Contracts of layer 2's functions (wide): the long division. -/
import Derived.Test.YtldhbgefpfmkmaaGreatJWide
namespace Go.Proofs.YtldhbgefpfmkmaaGreat
open Go.ChangeShapes Go.WideShapes Go.ChangeAt Go.RowKit

theorem results_row_tmp2 {P : Program} {fn : Func} {p u v : Tmp} {ty : TypeId} (h : fn.results = #[.cell p ty, .tmp u, .tmp v]) (tmps : Array Value) (w : World) (g : Nat) (t : TypeId) (cs : Array Value) (fr : Nat × Nat) (d : TypeDesc) (n : Nat) (x y : Value)
    (hx : tmps.getD u undef = x) (hy : tmps.getD v undef = y) (hp : tmps.getD p undef = .pointer (some ⟨g, 0, none⟩)) (hg : w.heap[g]? = some (.cells cs t fr))
    (hu : P.underlying ty = some d) (hd : (match d with | .struct _ | .array _ _ => true | _ => false) = true) (hi : (P.info? ty).map (·.size) = some n) (hn : cs.size = n) :
    (results fn tmps).run P w = .ok (.tuple #[.agg cs, x, y]) w := by
  subst hx
  subst hy
  have hp' : tmps[p]?.getD undef = .pointer (some ⟨g, 0, none⟩) := by simpa using hp
  simp [results, h, hp', asAddr, run_loadVar_row w g t ty cs fr d hg hu hd (by rw [hn]; exact hi)]

theorem ret_row3 {fn : Func} {p u v : Tmp} {ty : TypeId} {W : World} {R : Ending → World → Prop} {a : Act} (h : fn.results = #[.cell p ty, .tmp u, .tmp v]) (hd : a.defers = []) (g : Nat) (t : TypeId) (cs : Array Value) (fr : Nat × Nat) (d : Array Field) (n : Nat) (x y : Value)
    (hp : a.tmps.getD p undef = .pointer (some ⟨g, 0, none⟩)) (hx : a.tmps.getD u undef = x) (hy : a.tmps.getD v undef = y) (hg : W.heap[g]? = some (.cells cs t fr)) (hu : Tryz.prog.underlying ty = some (.struct d))
    (hi : (Tryz.prog.info? ty).map (·.size) = some n) (hn : cs.size = n) (hR : R (.returned (.tuple #[.agg cs, x, y])) W) : bodyPost Tryz.prog fn R .ret a W :=
  bodyPost_ret (results_row_tmp2 h _ _ g t cs fr _ n x y hx hy hp hg hu rfl hi hn) hd hR

/-- A number's two words in memory. -/
def cells2 (x : Nat) : Array Value := #[.int .u64 (x / 18446744073709551616 : Nat), .int .u64 (x % 18446744073709551616 : Nat)]
theorem two_cells (x : Nat) : two x = .agg (cells2 x) := rfl
theorem cells2_one (x : Nat) : (cells2 x).all (·.oneCell') = true := by simp [cells2, Value.oneCell']
theorem cells2_info (x : Nat) : (Tryz.prog.info? 108).map (·.size) = some (cells2 x).size := twoInfo

structure DivMem (w wr : World) (x q : Nat) : Prop where
  below : Below w.heap.size w wr
  num : wr.heap[w.heap.size]? = some (.cells (cells2 x) 108 (0, 0))
  res : wr.heap[w.heap.size + 1]? = some (.cells (cells2 0) 108 (0, 0))
  quo : wr.heap[w.heap.size + 2]? = some (.cells (cells2 q) 108 (0, 0))

theorem DivMem.call {w wr w' : World} {x q : Nat} (h : DivMem w wr x q) (hb : Below wr.heap.size wr w') : DivMem w w' x q := by
  obtain ⟨h1, h2, h3, h4⟩ := h
  exact ⟨h1.trans (hb.mono h1.size), (hb.block _ (lt_of_heap h2)).trans h2, (hb.block _ (lt_of_heap h3)).trans h3, (hb.block _ (lt_of_heap h4)).trans h4⟩

theorem DivMem.setX {w wr : World} {x q : Nat} (h : DivMem w wr x q) (y : Nat) : DivMem w (wr.setRow w.heap.size (cells2 y)) y q := by
  obtain ⟨h1, h2, h3, h4⟩ := h
  exact ⟨below_setRow h1 (by omega) _, setRow_heap _ _ _ _ _ _ h2, (setRow_other _ _ _ _ (by omega)).trans h3, (setRow_other _ _ _ _ (by omega)).trans h4⟩

theorem DivMem.setQ {w wr : World} {x q : Nat} (h : DivMem w wr x q) (y : Nat) : DivMem w (wr.setRow (w.heap.size + 2) (cells2 y)) x y := by
  obtain ⟨h1, h2, h3, h4⟩ := h
  exact ⟨below_setRow h1 (by omega) _, (setRow_other _ _ _ _ (by omega)).trans h2, (setRow_other _ _ _ _ (by omega)).trans h3, setRow_heap _ _ _ _ _ _ h4⟩

theorem DivMem.drew {w wr : World} {x q : Nat} (h : DivMem w wr x q) : DivMem w { wr with drawn := wr.drawn + 1 } x q :=
  ⟨below_drew h.below, h.num, h.res, h.quo⟩

theorem DivMem.setLo {w wr : World} {x q : Nat} (h : DivMem w wr x q) (y : Nat) (hy : y / 18446744073709551616 = q / 18446744073709551616) :
    DivMem w (wr.setCell ⟨w.heap.size + 2, 1, none⟩ (.int .u64 (y % 18446744073709551616 : Nat))) x y := by
  obtain ⟨h1, h2, h3, h4⟩ := h
  refine ⟨h1.setCell (by simp) _, (Below.heap_setCell _ _ _ _ (by simp)).trans h2, (Below.heap_setCell _ _ _ _ (by simp)).trans h3, ?_⟩
  rw [heap_setCell_same _ _ _ _ _ _ h4]
  congr 2
  unfold cells2
  rw [hy]
  rfl

/-- One round of the long division. -/
theorem div_round (X d k : Nat) (hd : 0 < d) (_ : d < 18446744073709551616) (hX : X < 2 ^ 128) (hk : k < 128) :
    ∃ r q xc bit r' q' : Nat, r = X / 2 ^ (128 - k) % d ∧ q = X / 2 ^ (128 - k) / d ∧ xc = X * 2 ^ k % 2 ^ 128 ∧ bit = xc / 2 ^ 127 ∧ bit ≤ 1 ∧ r < d ∧ 2 * q + 1 < 2 ^ 128 ∧ xc < 2 ^ 128 ∧
      r' = X / 2 ^ (128 - (k + 1)) % d ∧ q' = X / 2 ^ (128 - (k + 1)) / d ∧ X * 2 ^ (k + 1) % 2 ^ 128 = 2 * xc % 2 ^ 128 ∧
      (if d ≤ 2 * r + bit then r' + d = 2 * r + bit ∧ q' = 2 * q + 1 else r' = 2 * r + bit ∧ q' = 2 * q) := by
  refine ⟨_, _, _, _, _, _, rfl, rfl, rfl, rfl, ?_, ?_, ?_, ?_, rfl, rfl, ?_, ?_⟩
  · have : X * 2 ^ k % 2 ^ 128 < 2 ^ 128 := Nat.mod_lt _ (by omega)
    omega
  · exact Nat.mod_lt _ hd
  · have h1 : X / 2 ^ (128 - k) < 2 ^ k := by
      rw [Nat.div_lt_iff_lt_mul (Nat.two_pow_pos _), ← Nat.pow_add, show k + (128 - k) = 128 by omega]; exact hX
    have h2 : X / 2 ^ (128 - k) / d ≤ X / 2 ^ (128 - k) := Nat.div_le_self _ _
    have h3 : 2 ^ k ≤ 2 ^ 127 := Nat.pow_le_pow_right (by omega) (by omega)
    omega
  · exact Nat.mod_lt _ (by omega)
  · rw [Nat.pow_succ, ← Nat.mul_assoc, Nat.mul_comm (X * 2 ^ k) 2, Nat.mul_mod, Nat.mul_mod 2 (X * 2 ^ k % 2 ^ 128), Nat.mod_mod]
  · have hbit : X * 2 ^ k % 2 ^ 128 / 2 ^ 127 = X / 2 ^ (127 - k) % 2 := by
      rw [show (2 : Nat) ^ 128 = 2 ^ 127 * 2 by rfl, Nat.mod_mul_right_div_self]
      congr 1
      rw [show (2 : Nat) ^ 127 = 2 ^ (127 - k) * 2 ^ k by rw [← Nat.pow_add, show 127 - k + k = 127 by omega], Nat.mul_div_mul_right _ _ (Nat.two_pow_pos _)]
    rw [hbit]
    have hst : X / 2 ^ (127 - k) = 2 * (X / 2 ^ (128 - k)) + X / 2 ^ (127 - k) % 2 := by
      rw [show 128 - k = (127 - k) + 1 by omega, Nat.pow_succ, ← Nat.div_div_eq_div_mul]
      omega
    rw [show 128 - (k + 1) = 127 - k by omega]
    have hb : X / 2 ^ (127 - k) % 2 ≤ 1 := by omega
    generalize X / 2 ^ (127 - k) = Y at *
    generalize X / 2 ^ (128 - k) = Z at *
    generalize Y % 2 = b at *
    subst hst
    have e := Nat.div_add_mod Z d
    have l := Nat.mod_lt Z hd
    generalize Z % d = r at *
    generalize Z / d = q at *
    subst e
    split
    · have e2 : 2 * (d * q + r) + b = (2 * r + b - d) + d * (2 * q + 1) := by
        rw [Nat.mul_add, Nat.mul_add, Nat.mul_one, ← Nat.mul_assoc, Nat.mul_comm d (2 * q), Nat.mul_assoc 2 q d, Nat.mul_comm q d, Nat.mul_assoc 2 d q]
        omega
      rw [e2, Nat.add_mul_mod_self_left, Nat.add_mul_div_left _ _ hd, Nat.mod_eq_of_lt (by omega), Nat.div_eq_of_lt (by omega)]
      omega
    · have e2 : 2 * (d * q + r) + b = (2 * r + b) + d * (2 * q) := by
        rw [Nat.mul_add, ← Nat.mul_assoc, Nat.mul_comm d (2 * q), Nat.mul_assoc 2 q d, Nat.mul_comm q d, Nat.mul_assoc 2 d q]
        omega
      rw [e2, Nat.add_mul_mod_self_left, Nat.add_mul_div_left _ _ hd, Nat.mod_eq_of_lt (by omega), Nat.div_eq_of_lt (by omega)]
      omega

theorem wide_double' (x : Nat) (hx : x < 340282366920938463463374607431768211456) (w : World) :
    Calls Tryz.prog 86 #[two x] w fun e w' => e = .returned (two (2 * x % 340282366920938463463374607431768211456)) ∧ Below w.heap.size w w' := by
  have h := wide_double (x / 18446744073709551616) (x % 18446744073709551616) (by omega) (by omega) w
  have e : W2 (x / 18446744073709551616) (x % 18446744073709551616) = x := by unfold W2; omega
  rw [e] at h
  exact h

def Wide.rest (x d : Nat) : Nat := if d = 0 then 0 else x % d

theorem wide_div_zero (xh xl : Nat) (w : World) :
    Calls Tryz.prog 63 #[.agg #[.int .u64 xh, .int .u64 xl], .int .u64 0] w fun e w' =>
      e = .returned (.tuple #[two 0, .int .u64 0, .bool false]) ∧ Below w.heap.size w w' := by
  go_enter Tryz.func63, Tryz.ntmps63
  go_wp2
  exact ret_row3 rfl rfl (w.heap.size + 1) 108 _ (0, 0) _ 2 (.int .u64 0) (.bool false) rfl rfl rfl (heap_alloc_at _ _ _ (by simp)) Tryz.underlying108 twoInfo rfl ⟨rfl, below2 _ _ _⟩

set_option maxHeartbeats 2000000 in
set_option maxRecDepth 100000 in
theorem wide_div_pos (xh xl d : Nat) (hxh : xh < 18446744073709551616) (hxl : xl < 18446744073709551616) (hd : 0 < d) (hd2 : d < 18446744073709551616) (w : World) :
    Calls Tryz.prog 63 #[.agg #[.int .u64 xh, .int .u64 xl], .int .u64 d] w fun e w' =>
      e = .returned (.tuple #[two (W2 xh xl / d), .int .u64 (W2 xh xl % d : Nat), .bool true]) ∧ Below w.heap.size w w' := by
  have f0 : ((d : Int) == 0) = false := by simp; omega
  have hX : W2 xh xl < 2 ^ 128 := by unfold W2; omega
  have hc : cells2 (W2 xh xl) = #[.int .u64 xh, .int .u64 xl] := by unfold cells2 W2; rw [(two_words xh xl hxl).1, (two_words xh xl hxl).2]
  obtain ⟨X, hXe⟩ : ∃ X, X = W2 xh xl := ⟨_, rfl⟩
  rw [← hXe] at hX hc ⊢
  have HX := Lib.hid hX
  have HC := Lib.hid hc
  clear hXe hX hc
  go_enter Tryz.func63, Tryz.ntmps63
  go_wp2
  have hM : DivMem w (((w.alloc (.cells #[.int .u64 xh, .int .u64 xl] 108)).alloc (.cells #[.int .u64 0, .int .u64 0] 108)).alloc (.cells #[.int .u64 0, .int .u64 0] 108)) X 0 := by
    rw [← HC.out]
    exact ⟨below3 _ _ _ _, (by first | (with_reducible exact heap_1_0 _ _) | (with_reducible exact heap_2_0 _ _ _) | (with_reducible exact heap_2_1 _ _ _) | (with_reducible exact heap_3_0 _ _ _ _) | (with_reducible exact heap_3_1 _ _ _ _) | (with_reducible exact heap_3_2 _ _ _ _) | (with_reducible exact heap_4_0 _ _ _ _ _) | (with_reducible exact heap_4_1 _ _ _ _ _) | (with_reducible exact heap_4_2 _ _ _ _ _) | (with_reducible exact heap_4_3 _ _ _ _ _) | (with_reducible exact heap_5_0 _ _ _ _ _ _) | (with_reducible exact heap_5_1 _ _ _ _ _ _) | (with_reducible exact heap_5_2 _ _ _ _ _ _) | (with_reducible exact heap_5_3 _ _ _ _ _ _) | (with_reducible exact heap_5_4 _ _ _ _ _ _) | (with_reducible exact heap_6_0 _ _ _ _ _ _ _) | (with_reducible exact heap_6_1 _ _ _ _ _ _ _) | (with_reducible exact heap_6_2 _ _ _ _ _ _ _) | (with_reducible exact heap_6_3 _ _ _ _ _ _ _) | (with_reducible exact heap_6_4 _ _ _ _ _ _ _) | (with_reducible exact heap_6_5 _ _ _ _ _ _ _) | simp only [heap_alloc_past, heap_alloc_at, World.size_alloc, Nat.add_assoc, Nat.reduceAdd, Nat.lt_add_right_iff_pos, Nat.add_lt_add_iff_left, Nat.reduceLT, Nat.zero_lt_succ, Nat.lt_add_one]), Eq.trans (b := some (.cells #[.int .u64 0, .int .u64 0] 108 (0, 0))) (by first | (with_reducible exact heap_1_0 _ _) | (with_reducible exact heap_2_0 _ _ _) | (with_reducible exact heap_2_1 _ _ _) | (with_reducible exact heap_3_0 _ _ _ _) | (with_reducible exact heap_3_1 _ _ _ _) | (with_reducible exact heap_3_2 _ _ _ _) | (with_reducible exact heap_4_0 _ _ _ _ _) | (with_reducible exact heap_4_1 _ _ _ _ _) | (with_reducible exact heap_4_2 _ _ _ _ _) | (with_reducible exact heap_4_3 _ _ _ _ _) | (with_reducible exact heap_5_0 _ _ _ _ _ _) | (with_reducible exact heap_5_1 _ _ _ _ _ _) | (with_reducible exact heap_5_2 _ _ _ _ _ _) | (with_reducible exact heap_5_3 _ _ _ _ _ _) | (with_reducible exact heap_5_4 _ _ _ _ _ _) | (with_reducible exact heap_6_0 _ _ _ _ _ _ _) | (with_reducible exact heap_6_1 _ _ _ _ _ _ _) | (with_reducible exact heap_6_2 _ _ _ _ _ _ _) | (with_reducible exact heap_6_3 _ _ _ _ _ _ _) | (with_reducible exact heap_6_4 _ _ _ _ _ _ _) | (with_reducible exact heap_6_5 _ _ _ _ _ _ _) | simp only [heap_alloc_past, heap_alloc_at, World.size_alloc, Nat.add_assoc, Nat.reduceAdd, Nat.lt_add_right_iff_pos, Nat.add_lt_add_iff_left, Nat.reduceLT, Nat.zero_lt_succ, Nat.lt_add_one]) rfl, Eq.trans (b := some (.cells #[.int .u64 0, .int .u64 0] 108 (0, 0))) (by first | (with_reducible exact heap_1_0 _ _) | (with_reducible exact heap_2_0 _ _ _) | (with_reducible exact heap_2_1 _ _ _) | (with_reducible exact heap_3_0 _ _ _ _) | (with_reducible exact heap_3_1 _ _ _ _) | (with_reducible exact heap_3_2 _ _ _ _) | (with_reducible exact heap_4_0 _ _ _ _ _) | (with_reducible exact heap_4_1 _ _ _ _ _) | (with_reducible exact heap_4_2 _ _ _ _ _) | (with_reducible exact heap_4_3 _ _ _ _ _) | (with_reducible exact heap_5_0 _ _ _ _ _ _) | (with_reducible exact heap_5_1 _ _ _ _ _ _) | (with_reducible exact heap_5_2 _ _ _ _ _ _) | (with_reducible exact heap_5_3 _ _ _ _ _ _) | (with_reducible exact heap_5_4 _ _ _ _ _ _) | (with_reducible exact heap_6_0 _ _ _ _ _ _ _) | (with_reducible exact heap_6_1 _ _ _ _ _ _ _) | (with_reducible exact heap_6_2 _ _ _ _ _ _ _) | (with_reducible exact heap_6_3 _ _ _ _ _ _ _) | (with_reducible exact heap_6_4 _ _ _ _ _ _ _) | (with_reducible exact heap_6_5 _ _ _ _ _ _ _) | simp only [heap_alloc_past, heap_alloc_at, World.size_alloc, Nat.add_assoc, Nat.reduceAdd, Nat.lt_add_right_iff_pos, Nat.add_lt_add_iff_left, Nat.reduceLT, Nat.zero_lt_succ, Nat.lt_add_one]) rfl⟩
  have HM := Lib.hid hM
  clear hM
  generalize (((w.alloc (.cells #[.int .u64 xh, .int .u64 xl] 108)).alloc (.cells #[.int .u64 0, .int .u64 0] 108)).alloc (.cells #[.int .u64 0, .int .u64 0] 108)) = w0 at *
  go_loopw [8, 13] (fun r i wr => ∃ k : Nat, k ≤ 128 ∧ i = .int .i64 k ∧ r = .int .u64 (X / 2 ^ (128 - k) % d : Nat) ∧ DivMem w wr (X * 2 ^ k % 2 ^ 128) (X / 2 ^ (128 - k) / d)) (fun _ i _ => 128 - (intOf i).toNat)
  case atStart =>
    have hz : X / 2 ^ 128 = 0 := Nat.div_eq_of_lt HX.out
    exact ⟨0, by omega, rfl, int_eq (by rw [Nat.sub_zero, hz, Nat.zero_mod]; rfl), by rw [Nat.sub_zero, hz, Nat.zero_div, Nat.pow_zero, Nat.mul_one, Nat.mod_eq_of_lt HX.out]; exact HM.out⟩
  case round =>
    clear HM
    obtain ⟨k, hk, rfl, rfl, hM⟩ := hrel
    by_cases hlt : k < 128
    · obtain ⟨r, q, xc, bit, r', q', er, eq', exc, ebit, hbit, hr, hq, hxc, er', eq2, ex', hcase⟩ := div_round X d k hd hd2 HX.out hlt
      rw [← eq', ← exc] at hM
      rw [← er]
      have HM := Lib.hid hM
      have ER' := Lib.hid er'
      have EQ2 := Lib.hid eq2
      have EX' := Lib.hid ex'
      obtain ⟨o, ho⟩ : ∃ o, o = r / 9223372036854775808 := ⟨_, rfl⟩
      obtain ⟨r2, hr2⟩ : ∃ r2, r2 = 2 * r % 18446744073709551616 := ⟨_, rfl⟩
      obtain ⟨s, hs⟩ : ∃ s, s = (2 * r + bit) % 18446744073709551616 := ⟨_, rfl⟩
      obtain ⟨xhi, hxhi⟩ : ∃ xhi, xhi = xc / 18446744073709551616 := ⟨_, rfl⟩
      have y0 : (r : Int) / 9223372036854775808 = o := by omega
      have y1 : IntKind.u64.wrap ((r : Int) * 2) = r2 := by rw [IntKind.wrap_u64]; omega
      have y2 : (xhi : Int) / 9223372036854775808 = bit := by omega
      have y3 : bits .or .u64 (r2 : Int) bit = s := by
        have := or_low ((r2 / 2 : Nat) : Int) (bit : Int) 1 (by omega) (by omega) (by omega) (by omega) (by omega)
        rw [show (r2 : Int) = ((r2 / 2 : Nat) : Int) * 2 ^ 1 by omega, this]
        omega
      have c1 : wr.cell? ⟨w.heap.size, 0, none⟩ = some (.int .u64 xhi) := by rw [cell_of_row _ _ _ _ _ _ hM.num, hxhi]; rfl
      have hdx := wide_double' xc (by omega)
      have hdq := wide_double' q (by omega)
      have e2q : 2 * q % 340282366920938463463374607431768211456 = 2 * q := Nat.mod_eq_of_lt (by omega)
      rw [e2q] at hdq
      rw [show (340282366920938463463374607431768211456 : Nat) = 2 ^ 128 from rfl, ← ex'] at hdx
      obtain ⟨x', hx'⟩ : ∃ x', x' = X * 2 ^ (k + 1) % 2 ^ 128 := ⟨_, rfl⟩
      rw [← hx'] at hdx
      have HX' := Lib.hid hx'
      clear er eq' exc ebit er' eq2 ex' hM hx' e2q
      have hs2 : s < 18446744073709551616 := by omega
      have ho1 : o ≤ 1 := by omega
      have HCASE : Hid (if o = 1 ∨ d ≤ s then (IntKind.u64.wrap ((s : Int) - d) = r' ∧ q' = 2 * q + 1) else (s = r' ∧ q' = 2 * q)) := by
        show if _ then _ else _
        rw [IntKind.wrap_u64]
        split at hcase
        · rw [if_pos (by omega)]; omega
        · rw [if_neg (by omega)]; omega
      clear hcase hr hq hxc ho hr2 hs hxhi hbit
      have hkd : decide ((k : Int) < 128) = true := by simp; omega
      go_wp2
      refine wp_region_D mixed [4, 5] (st3 (fun w' => DivMem w w' xc q) (fun w' => DivMem w w' x' q) (fun w' => DivMem w w' x' (2 * q))) HM.out.drew ?_
      refine wpAnyD_take 0 0 (v := two xc) rfl (by kernel_rfl) (by kernel_rfl) (by kernel_rfl) (EffD.run rfl rfl (fun wd hS => ?_)) (.inl (by kernel_rfl)) ?_
      · exact wp_load_row 108 _ rfl w.heap.size rfl 108 (cells2 xc) (0, 0) _ hS.num Tryz.underlying108 rfl (cells2_info _) ⟨rfl, hS⟩
      simp only [act_norm]
      refine wpAnyD_take 1 0 (v := two x') rfl (by kernel_rfl) (by kernel_rfl) (by kernel_rfl) (EffD.run rfl rfl (fun wd hS => ?_)) (.inl (by kernel_rfl)) ?_
      · (go_wp2_with fail; (with_reducible refine (hdx wd).mono ?_); rintro e w'' ⟨rfl, hb⟩; exact ⟨rfl, hS.call hb⟩)
      simp only [act_norm]
      refine wpAnyD_take 2 0 (v := two q) rfl (by kernel_rfl) (by kernel_rfl) (by kernel_rfl) (EffD.run rfl rfl (fun wd hS => ?_)) (.inl (by kernel_rfl)) ?_
      · exact wp_load_row 108 _ rfl (w.heap.size + 2) rfl 108 (cells2 q) (0, 0) _ hS.quo Tryz.underlying108 rfl (cells2_info _) ⟨rfl, hS⟩
      simp only [act_norm]
      refine wpAnyD_take 3 0 (v := two (2 * q)) rfl (by kernel_rfl) (by kernel_rfl) (by kernel_rfl) (EffD.run rfl rfl (fun wd hS => ?_)) (.inl (by kernel_rfl)) ?_
      · (go_wp2_with fail; (with_reducible refine (hdq wd).mono ?_); rintro e w'' ⟨rfl, hb⟩; exact ⟨rfl, hS.call hb⟩)
      simp only [act_norm]
      refine wpAnyD_flag 4 0 (v := undef) rfl (by kernel_rfl) (EffD.run rfl rfl (fun wd hS => ?_)) ?_
      · exact wp_store_row 108 _ _ rfl w.heap.size (cells2 x') rfl rfl 108 (cells2 xc) hS.num (cells2_info _) rfl (cells2_one _) ⟨rfl, hS.setX x'⟩
      simp only [act_norm]
      refine wpAnyD_flag 5 1 (v := undef) rfl (by kernel_rfl) (EffD.run rfl rfl (fun wd hS => ?_)) ?_
      · exact wp_store_row 108 _ _ rfl (w.heap.size + 2) (cells2 (2 * q)) rfl rfl 108 (cells2 q) hS.quo (cells2_info _) rfl (cells2_one _) ⟨rfl, hS.setQ (2 * q)⟩
      simp only [act_norm]
      refine wpAnyD_done 2 (by kernel_rfl) (fun wd hS => ?_) _
      have HS := Lib.hid hS
      clear hS HM c1
      have g1 : wd.cell? ⟨w.heap.size + 2, 1, none⟩ = some (.int .u64 (2 * q % 18446744073709551616 : Nat)) := by rw [cell_of_row _ _ _ _ _ _ HS.out.quo]; rfl
      have g2 : wd.frozen? ⟨w.heap.size + 2, 1, none⟩ = false := frozen_of_row _ _ _ _ _ HS.out.quo
      have y4 : bits .or .u64 ((2 * q % 18446744073709551616 : Nat) : Int) 1 = ((2 * q + 1) % 18446744073709551616 : Nat) := by
        have := or_low ((2 * q % 18446744073709551616 / 2 : Nat) : Int) 1 1 (by omega) (by omega) (by omega) (by omega) (by omega)
        rw [show ((2 * q % 18446744073709551616 : Nat) : Int) = ((2 * q % 18446744073709551616 / 2 : Nat) : Int) * 2 ^ 1 by omega, this]
        omega
      obtain ⟨ql, hql⟩ : ∃ ql, ql = 2 * q % 18446744073709551616 := ⟨_, rfl⟩
      obtain ⟨ql', hql'⟩ : ∃ ql, ql = (2 * q + 1) % 18446744073709551616 := ⟨_, rfl⟩
      rw [← hql] at g1 y4
      rw [← hql'] at y4
      have HQL := Lib.hid hql'
      clear hql hql'
      by_cases hos : o = 1 ∨ d ≤ s
      · have hcs := HCASE.out
        rw [if_pos hos] at hcs
        have y5 := hcs.1
        have HQ := Lib.hid hcs.2
        clear hcs HCASE
        by_cases ho : o = 1
        · subst ho
          clear hos
          go_wp2
          go_roundw
          case rel => exact ⟨k + 1, by omega, by go_num, int_eq (by rw [← ER'.out]), by rw [← HX'.out, ← EQ2.out, HQ.out]; have := HS.out.setLo (2 * q + 1) (by omega); rw [← HQL.out] at this; exact this⟩
          case measure => simp [intOf]; omega
        · obtain rfl : o = 0 := by omega
          have hds : d ≤ s := by omega
          clear hos ho
          go_wp2
          go_roundw
          case rel => exact ⟨k + 1, by omega, by go_num, int_eq (by rw [← ER'.out]), by rw [← HX'.out, ← EQ2.out, HQ.out]; have := HS.out.setLo (2 * q + 1) (by omega); rw [← HQL.out] at this; exact this⟩
          case measure => simp [intOf]; omega
      · have hcs := HCASE.out
        rw [if_neg hos] at hcs
        obtain rfl : o = 0 := by omega
        have hds : s < d := by omega
        have HQ := Lib.hid hcs.2
        have HR := Lib.hid hcs.1
        clear hcs HCASE hos
        go_wp2
        go_roundw
        case rel => exact ⟨k + 1, by omega, by go_num, int_eq (by rw [← ER'.out, HR.out]), by rw [← HX'.out, ← EQ2.out, HQ.out]; exact HS.out⟩
        case measure => simp [intOf]; omega
    · obtain rfl : k = 128 := by omega
      rw [Nat.sub_self, Nat.pow_zero, Nat.div_one] at hM ⊢
      have HM := Lib.hid hM
      clear hM
      go_wp2_with (first | ((with_reducible refine wpList_load_rowAs rfl 108 _ rfl (w.heap.size + 2) ?_ 108 (cells2 (X / d)) (0, 0) _ 2 ?_ Tryz.underlying108 rfl twoInfo rfl ?_); exact rfl; exact HM.out.quo) | ((with_reducible refine wpList_store_rowAs rfl 108 _ _ rfl (w.heap.size + 1) (cells2 (X / d)) ?_ ?_ 108 (cells2 0) 2 ?_ twoInfo rfl rfl (cells2_one _) ?_); exact rfl; exact rfl; exact HM.out.res))
      exact ret_row3 rfl rfl (w.heap.size + 1) 108 (cells2 (X / d)) (0, 0) _ 2 (.int .u64 (X % d : Nat)) (.bool true) rfl rfl rfl (setRow_heap _ _ _ _ _ _ HM.out.res) Tryz.underlying108 twoInfo rfl ⟨rfl, below_setRow HM.out.below (by omega) _⟩
end Go.Proofs.YtldhbgefpfmkmaaGreat
