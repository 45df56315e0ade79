/- Contracts of layer 2's functions (wide): what is rounded up, sums, means. -/
import Derived.Test.YtldhbgefpfmkmaaGreatJWide2
namespace Go.Proofs.YtldhbgefpfmkmaaGreat
open Go.ChangeShapes Go.WideShapes Go.ChangeAt Go.RowKit

theorem twoZero (w : World) : (Instr.alloc 108 true (.tuple #[])).run Tryz.prog w = .ok (.pointer (some ⟨w.heap.size, 0, none⟩)) (w.alloc (.cells (cells2 0) 108)) := by kernel_rfl

/-- A number by a number, rounded up, stopped at the end; 0 by 0. -/
def Wide.up (x d : Nat) : Int := if d = 0 then 0 else Bits.small (x / d + (if x % d = 0 then 0 else 1))

theorem W2_split (x : Nat) : W2 (x / 18446744073709551616) (x % 18446744073709551616) = x := by unfold W2; omega

theorem wide_add' (x y : Nat) (hx : x < 340282366920938463463374607431768211456) (hy : y < 340282366920938463463374607431768211456) (w : World) :
    Calls Tryz.prog 109 #[two x, two y] w fun e w' => e = .returned (.tuple #[two (Bits.sum x y), .bool (Bits.fits x y)]) ∧ Below w.heap.size w w' := by
  have h := wide_add (x / 18446744073709551616) (x % 18446744073709551616) (y / 18446744073709551616) (y % 18446744073709551616) (by omega) (by omega) (by omega) (by omega) w
  rw [W2_split, W2_split] at h
  exact h

theorem wide_small' (x : Nat) (w : World) :
    Calls Tryz.prog 65 #[two x] w fun e w' => e = .returned (.int .i64 (Bits.small x)) ∧ Below w.heap.size w w' := by
  have h := wide_small (x / 18446744073709551616) (x % 18446744073709551616) (by omega) w
  rw [W2_split] at h
  exact h

theorem wide_cmp' (x y : Nat) (w : World) :
    Calls Tryz.prog 110 #[two x, two y] w fun e w' => e = .returned (.int .i64 (Bits.cmp x y)) ∧ Below w.heap.size w w' := by
  have h := wide_cmp (x / 18446744073709551616) (x % 18446744073709551616) (y / 18446744073709551616) (y % 18446744073709551616) (by omega) (by omega) w
  rw [W2_split, W2_split] at h
  exact h

def Wide.quo (x d : Nat) : Nat := x / d

theorem wide_div' (x d : Nat) (hx : x < 340282366920938463463374607431768211456) (hd : d < 18446744073709551616) (w : World) :
    Calls Tryz.prog 63 #[two x, .int .u64 d] w fun e w' => e = .returned (.tuple #[two (Wide.quo x d), .int .u64 (Wide.rest x d), .bool (!(d == 0))]) ∧ Below w.heap.size w w' := by
  by_cases h0 : d = 0
  · subst h0
    have h := wide_div_zero (x / 18446744073709551616) (x % 18446744073709551616) w
    refine h.mono fun e w' ⟨he, hb⟩ => ⟨?_, hb⟩
    rw [he]
    simp [Wide.quo, Wide.rest]
  · have h := wide_div_pos (x / 18446744073709551616) (x % 18446744073709551616) d (by omega) (by omega) (by omega) hd w
    rw [W2_split] at h
    refine h.mono fun e w' ⟨he, hb⟩ => ⟨?_, hb⟩
    rw [he]
    simp [Wide.quo, Wide.rest, h0]

set_option maxHeartbeats 1000000 in
set_option maxRecDepth 100000 in
theorem wide_up (x d : Nat) (hx : x < 340282366920938463463374607431768211456) (hd : d < 18446744073709551616) (w : World) :
    Calls Tryz.prog 107 #[two x, .int .u64 d] w fun e w' => e = .returned (.int .i64 (Wide.up x d)) ∧ Below w.heap.size w w' := by
  have h1 := wide_div' x d hx hd
  have hq : Wide.quo x d ≤ x := Nat.div_le_self _ _
  obtain ⟨q, hqe⟩ : ∃ q, q = Wide.quo x d := ⟨_, rfl⟩
  obtain ⟨r, hre⟩ : ∃ r, r = Wide.rest x d := ⟨_, rfl⟩
  rw [← hqe] at h1 hq
  rw [← hre] at h1
  have HU : Hid (Wide.up x d = Bits.small (q + (if r = 0 then 0 else 1))) := by
    show Wide.up x d = _
    unfold Wide.up
    rw [hqe, hre]
    unfold Wide.quo Wide.rest
    by_cases h0 : d = 0
    · subst h0; simp [Bits.small]
    · rw [if_neg h0, if_neg h0]
  have HB : Hid (r ≠ 0 → q + 1 < 2 ^ 128) := by
    show r ≠ 0 → q + 1 < 2 ^ 128
    intro hr
    have h2 : d ≠ 0 := fun h => hr (by rw [hre]; unfold Wide.rest; rw [if_pos h])
    have h3 : x % d ≠ 0 := by rw [hre] at hr; unfold Wide.rest at hr; rw [if_neg h2] at hr; exact hr
    have h4 : d ≠ 1 := fun h => h3 (by rw [h]; exact Nat.mod_one x)
    have h5 : x / d ≤ x / 2 := Nat.div_le_div_left (by omega) (by omega)
    rw [hqe]; unfold Wide.quo
    omega
  clear hqe hre
  have hadd : q + 1 < 2 ^ 128 → ∀ w, Calls Tryz.prog 109 #[two q, two 1] w fun e w' => e = .returned (.tuple #[two (q + 1), .bool true]) ∧ Below w.heap.size w w' := fun h => by
    have h2 := wide_add' q 1 (by omega) (by omega)
    rw [show Bits.sum q 1 = q + 1 by unfold Bits.sum; rw [if_pos h], show Bits.fits q 1 = true by unfold Bits.fits; exact decide_eq_true h] at h2
    exact h2
  rw [two_cells x] at h1 ⊢
  go_enter Tryz.func107, Tryz.ntmps107
  go_wp2_with (first | ((with_reducible refine wpList_load_rowAs rfl 108 _ rfl (w.heap.size) ?_ 108 (cells2 x) (0, 0) _ 2 ?_ Tryz.underlying108 rfl twoInfo rfl ?_); exact rfl; exact (heap_alloc_at _ _ _ rfl)))
  refine (h1 _).mono ?_
  rintro e w1 ⟨rfl, hb1⟩
  have hz : w.heap.size < w1.heap.size := by have := hb1.size; simp at this; omega
  have h0 : Below w.heap.size w w1 := (below1 w _).trans (hb1.mono (by simp))
  have H0 := Lib.hid h0
  clear hb1 h0
  by_cases hr : r = 0
  · subst hr
    go_wp2_with (first | (with_reducible refine wpList_alloc_as rfl _ rfl _ (twoZero _) ?_) | ((with_reducible refine wpList_store_rowAs rfl 108 _ _ rfl (w1.heap.size) (cells2 q) ?_ ?_ 108 (cells2 0) 2 ?_ twoInfo rfl rfl (cells2_one _) ?_); exact rfl; exact rfl; exact (heap_alloc_at _ _ _ rfl)) | ((with_reducible refine wpList_load_rowAs rfl 108 _ rfl (w1.heap.size) ?_ 108 (cells2 q) (0, 0) _ 2 ?_ Tryz.underlying108 rfl twoInfo rfl ?_); exact rfl; exact (by simp only [setRow_alloc_at]; exact heap_alloc_at _ _ _ rfl)))
    refine (wide_small' q _).mono ?_
    rintro e w2 ⟨rfl, hb2⟩
    have h2 := H0.out.trans ((((Below.refl w1.heap.size w1).alloc (Nat.le_refl _) (.cells (cells2 0) 108)).trans (below_setRow (Below.refl _ _) (Nat.le_refl _) (cells2 q))).mono H0.out.size)
    have H2 := Lib.hid (h2.trans (hb2.mono (by simp; omega)))
    clear hb2 h2
    go_wp2
    go_ret
    exact ⟨ret_int (by rw [HU.out]; simp), H2.out⟩
  · have hr1 : 0 < r := by omega
    have ha := hadd (HB.out hr)
    go_wp2_with (first | (with_reducible refine wpList_alloc_as rfl _ rfl _ (twoZero _) ?_) | ((with_reducible refine wpList_store_rowAs rfl 108 _ _ rfl (w1.heap.size) (cells2 q) ?_ ?_ 108 (cells2 0) 2 ?_ twoInfo rfl rfl (cells2_one _) ?_); exact rfl; exact rfl; exact (heap_alloc_at _ _ _ rfl)) | ((with_reducible refine wpList_load_rowAs rfl 108 _ rfl (w1.heap.size) ?_ 108 (cells2 q) (0, 0) _ 2 ?_ Tryz.underlying108 rfl twoInfo rfl ?_); exact rfl; exact (by simp only [setRow_alloc_at]; exact heap_alloc_at _ _ _ rfl)))
    refine (ha _).mono ?_
    rintro e w2 ⟨rfl, hb2⟩
    have hs : ((w1.alloc (.cells (cells2 0) 108)).setRow w1.heap.size (cells2 q)).heap[w1.heap.size]? = some (.cells (cells2 q) 108 (0, 0)) := by
      simp only [setRow_alloc_at]; exact heap_alloc_at _ _ _ rfl
    have hs2 := (hb2.block _ (lt_of_heap hs)).trans hs
    have h2 := H0.out.trans ((((Below.refl w1.heap.size w1).alloc (Nat.le_refl _) (.cells (cells2 0) 108)).trans (below_setRow (Below.refl _ _) (Nat.le_refl _) (cells2 q))).mono H0.out.size)
    have h3 := h2.trans (hb2.mono (by simp; omega))
    have H2 := Lib.hid h3
    have HS := Lib.hid hs2
    clear hb2 h2 h3 hs hs2
    go_wp2_with (first | ((with_reducible refine wpList_store_rowAs rfl 108 _ _ rfl (w1.heap.size) (cells2 (q + 1)) ?_ ?_ 108 (cells2 q) 2 ?_ twoInfo rfl rfl (cells2_one _) ?_); exact rfl; exact rfl; exact (HS.out)) | ((with_reducible refine wpList_load_rowAs rfl 108 _ rfl (w1.heap.size) ?_ 108 (cells2 (q + 1)) (0, 0) _ 2 ?_ Tryz.underlying108 rfl twoInfo rfl ?_); exact rfl; exact (setRow_heap _ _ _ _ _ _ HS.out)))
    refine (wide_small' (q + 1) _).mono ?_
    rintro e w3 ⟨rfl, hb3⟩
    have H3 := Lib.hid ((below_setRow H2.out (by omega) (cells2 (q + 1))).trans (hb3.mono (by simp; exact Nat.le_trans H2.out.size (Nat.le_refl _))))
    clear hb3
    go_wp2
    go_ret
    exact ⟨ret_int (by rw [HU.out, if_neg hr]), H3.out⟩

def Wide.scale (a b c : Int) : Int := if a < 0 ∨ b < 0 ∨ c < 1 then 0 else Wide.up (a.toNat * b.toNat) c.toNat

set_option maxHeartbeats 1000000 in
set_option maxRecDepth 100000 in
theorem wide_total (p : Option Addr) (cap : Nat) (l : List Int) (w : World) (hs : Ints .i64 w p l) (hl : ∀ n ∈ l, I64 n) (hb : l.length ≤ 9223372036854775807) :
    Calls Tryz.prog 108 #[.slice p l.length cap] w fun e w' => e = .returned (two (Bits.total l)) ∧ Below w.heap.size w w' := by
  have HS := Lib.hid hs
  have HL := Lib.hid hl
  have HT := Lib.hid (Bits.total_le l hl)
  clear hs hl
  obtain ⟨n, hn⟩ : ∃ n, n = l.length := ⟨_, rfl⟩
  rw [← hn] at hb ⊢
  have HN := Lib.hid hn
  clear hn
  go_enter Tryz.func108, Tryz.ntmps108
  go_wp2_with (first | ((with_reducible refine wpList_alloc_as rfl _ rfl _ (twoZero _) ?_); (try simp only [World.size_alloc])))
  have h0 := below2 w (.cells (cells2 0) 108) (.cells (cells2 0) 108)
  have h1 : ((w.alloc (.cells (cells2 0) 108)).alloc (.cells (cells2 0) 108)).heap[w.heap.size]? = some (.cells (cells2 0) 108 (0, 0)) := (by first | (with_reducible exact heap_1_0 _ _) | (with_reducible exact heap_2_0 _ _ _) | (with_reducible exact heap_2_1 _ _ _) | (with_reducible exact heap_3_0 _ _ _ _) | (with_reducible exact heap_3_1 _ _ _ _) | (with_reducible exact heap_3_2 _ _ _ _) | (with_reducible exact heap_4_0 _ _ _ _ _) | (with_reducible exact heap_4_1 _ _ _ _ _) | (with_reducible exact heap_4_2 _ _ _ _ _) | (with_reducible exact heap_4_3 _ _ _ _ _) | (with_reducible exact heap_5_0 _ _ _ _ _ _) | (with_reducible exact heap_5_1 _ _ _ _ _ _) | (with_reducible exact heap_5_2 _ _ _ _ _ _) | (with_reducible exact heap_5_3 _ _ _ _ _ _) | (with_reducible exact heap_5_4 _ _ _ _ _ _) | (with_reducible exact heap_6_0 _ _ _ _ _ _ _) | (with_reducible exact heap_6_1 _ _ _ _ _ _ _) | (with_reducible exact heap_6_2 _ _ _ _ _ _ _) | (with_reducible exact heap_6_3 _ _ _ _ _ _ _) | (with_reducible exact heap_6_4 _ _ _ _ _ _ _) | (with_reducible exact heap_6_5 _ _ _ _ _ _ _) | simp only [heap_alloc_past, heap_alloc_at, World.size_alloc, Nat.add_assoc, Nat.reduceAdd, Nat.lt_add_right_iff_pos, Nat.add_lt_add_iff_left, Nat.reduceLT, Nat.zero_lt_succ, Nat.lt_add_one])
  have h2 : ((w.alloc (.cells (cells2 0) 108)).alloc (.cells (cells2 0) 108)).heap[w.heap.size + 1]? = some (.cells (cells2 0) 108 (0, 0)) := (by first | (with_reducible exact heap_1_0 _ _) | (with_reducible exact heap_2_0 _ _ _) | (with_reducible exact heap_2_1 _ _ _) | (with_reducible exact heap_3_0 _ _ _ _) | (with_reducible exact heap_3_1 _ _ _ _) | (with_reducible exact heap_3_2 _ _ _ _) | (with_reducible exact heap_4_0 _ _ _ _ _) | (with_reducible exact heap_4_1 _ _ _ _ _) | (with_reducible exact heap_4_2 _ _ _ _ _) | (with_reducible exact heap_4_3 _ _ _ _ _) | (with_reducible exact heap_5_0 _ _ _ _ _ _) | (with_reducible exact heap_5_1 _ _ _ _ _ _) | (with_reducible exact heap_5_2 _ _ _ _ _ _) | (with_reducible exact heap_5_3 _ _ _ _ _ _) | (with_reducible exact heap_5_4 _ _ _ _ _ _) | (with_reducible exact heap_6_0 _ _ _ _ _ _ _) | (with_reducible exact heap_6_1 _ _ _ _ _ _ _) | (with_reducible exact heap_6_2 _ _ _ _ _ _ _) | (with_reducible exact heap_6_3 _ _ _ _ _ _ _) | (with_reducible exact heap_6_4 _ _ _ _ _ _ _) | (with_reducible exact heap_6_5 _ _ _ _ _ _ _) | simp only [heap_alloc_past, heap_alloc_at, World.size_alloc, Nat.add_assoc, Nat.reduceAdd, Nat.lt_add_right_iff_pos, Nat.add_lt_add_iff_left, Nat.reduceLT, Nat.zero_lt_succ, Nat.lt_add_one])
  generalize (w.alloc (.cells (cells2 0) 108)).alloc (.cells (cells2 0) 108) = w0 at *
  have H0 := Lib.hid h0
  have H1 := Lib.hid h1
  have H2 := Lib.hid h2
  clear h0 h1 h2
  go_loopw [8] (fun i wr => ∃ k : Nat, k ≤ n ∧ i = .int .i64 k ∧ Below w.heap.size w wr ∧ wr.heap[w.heap.size]? = some (.cells (cells2 0) 108 (0, 0)) ∧ wr.heap[w.heap.size + 1]? = some (.cells (cells2 (Bits.total (l.take k))) 108 (0, 0))) (fun i _ => n - (intOf i).toNat)
  case atStart => exact ⟨0, by omega, rfl, H0.out, H1.out, H2.out⟩
  case round =>
    clear H0 H1 H2
    obtain ⟨k, hk, rfl, h0, h1, h2⟩ := hrel
    have H0 := Lib.hid h0
    have H1 := Lib.hid h1
    have H2 := Lib.hid h2
    clear h0 h1 h2
    by_cases hlt : k < n
    · have hkl : k < l.length := by have := HN.out; omega
      obtain ⟨b, off, rfl, hbw, hc⟩ := HS.out.pos (by omega)
      have hcell := hc k (by omega)
      have hcell' : wr.cell? ⟨b, off + k, none⟩ = some (.int .i64 (l[k]?.getD 0)) := by rw [H0.out.cell (p := ⟨b, off + k, none⟩) hbw]; exact hcell
      have hI := HL.out (l[k]?.getD 0) (by rw [List.getElem?_eq_getElem hkl]; exact List.getElem_mem _)
      obtain ⟨hI1, hI2⟩ := hI
      have ht := Bits.total_step l k hkl
      have hle := HT.out (k + 1) (by omega)
      have hle0 := HT.out k (by omega)
      generalize l[k]?.getD 0 = x at *
      clear hc hkl hcell
      have HT1 := Lib.hid ht
      have HLE := Lib.hid hle
      have HLE0 := Lib.hid hle0
      clear ht hle hle0
      by_cases hpos : 0 < x
      · obtain ⟨y, rfl⟩ : ∃ y : Nat, x = y := ⟨Int.toNat x, by omega⟩
        rw [Int.toNat_natCast] at HT1
        have hkb : (k + 1) * 9223372036854775807 ≤ 9223372036854775807 * 9223372036854775807 := Nat.mul_le_mul_right _ (by omega)
        have hadd := wide_add (Bits.total (l.take k) / 18446744073709551616) (Bits.total (l.take k) % 18446744073709551616) 0 y (by have := HLE0.out; omega) (by omega) (by omega) (by omega)
        rw [W2_split, show W2 0 y = y by unfold W2; omega] at hadd
        have hsum : Bits.sum (Bits.total (l.take k)) y = Bits.total (l.take (k + 1)) := by
          unfold Bits.sum
          rw [← HT1.out, if_pos]
          have := HLE.out
          omega
        rw [hsum] at hadd
        obtain ⟨T, hT⟩ : ∃ T, T = Bits.total (l.take k) := ⟨_, rfl⟩
        obtain ⟨T', hT'⟩ : ∃ T', T' = Bits.total (l.take (k + 1)) := ⟨_, rfl⟩
        rw [← hT] at H2 hadd
        rw [← hT'] at hadd
        have HT' := Lib.hid hT'
        clear hT hT' hsum hkb
        have hadd' : ∀ w, Calls Tryz.prog 109 #[.agg (cells2 T), .agg #[.int .u64 0, .int .u64 y]] w fun e w' => e = .returned (.tuple #[two T', .bool (Bits.fits T y)]) ∧ Below w.heap.size w w' := hadd
        clear hadd
        go_wp2_with (first | ((with_reducible refine wpList_load_rowAs rfl 108 _ rfl ((w.heap.size + 1)) ?_ 108 (cells2 T) (0, 0) _ 2 ?_ Tryz.underlying108 rfl twoInfo rfl ?_); exact rfl; exact (H2.out)))
        (with_reducible refine (hadd' _).mono ?_)
        rintro e w2 ⟨rfl, hb2⟩
        have k0 := H0.out.trans (hb2.mono H0.out.size)
        have k1 := (hb2.block _ (lt_of_heap H1.out)).trans H1.out
        have k2 := (hb2.block _ (lt_of_heap H2.out)).trans H2.out
        have K0 := Lib.hid (below_setRow k0 (by omega : w.heap.size ≤ w.heap.size + 1) (cells2 T'))
        have K1 := Lib.hid ((setRow_other w2 (w.heap.size + 1) w.heap.size (cells2 T') (by omega)).trans k1)
        have K2 := Lib.hid (setRow_heap _ _ _ (cells2 T') _ _ k2)
        have K2' := Lib.hid k2
        clear hb2 k0 k1 k2
        go_wp2_with (first | ((with_reducible refine wpList_store_rowAs rfl 108 _ _ rfl ((w.heap.size + 1)) (cells2 T') ?_ ?_ 108 (cells2 T) 2 ?_ twoInfo rfl rfl (cells2_one _) ?_); exact rfl; exact rfl; exact (K2'.out)))
        go_roundw
        case rel => exact ⟨k + 1, by omega, by go_num, K0.out, K1.out, by rw [← HT'.out]; exact K2.out⟩
        case measure => simp [intOf]; omega
      · have HX : Hid (x.toNat = 0) := by show x.toNat = 0; omega
        go_wp2
        go_roundw
        case rel => exact ⟨k + 1, by omega, by go_num, H0.out, H1.out, by rw [HT1.out, HX.out]; exact H2.out⟩
        case measure => simp [intOf]; omega
    · obtain rfl : k = n := by omega
      have HE : Hid (Bits.total (l.take k) = Bits.total l) := by show Bits.total (l.take k) = Bits.total l; rw [HN.out, List.take_length]
      have h2 := H2.out
      rw [HE.out] at h2
      have H2' := Lib.hid h2
      clear h2
      go_wp2_with (first | ((with_reducible refine wpList_load_rowAs rfl 108 _ rfl ((w.heap.size + 1)) ?_ 108 (cells2 (Bits.total l)) (0, 0) _ 2 ?_ Tryz.underlying108 rfl twoInfo rfl ?_); exact rfl; exact (H2'.out)) | ((with_reducible refine wpList_store_rowAs rfl 108 _ _ rfl (w.heap.size) (cells2 (Bits.total l)) ?_ ?_ 108 (cells2 0) 2 ?_ twoInfo rfl rfl (cells2_one _) ?_); exact rfl; exact rfl; exact (H1.out)))
      exact ret_row rfl rfl w.heap.size 108 (cells2 (Bits.total l)) (0, 0) _ 2 rfl (setRow_heap _ _ _ _ _ _ H1.out) Tryz.underlying108 twoInfo rfl ⟨rfl, below_setRow H0.out (Nat.le_refl _) _⟩

theorem Bits.total_lt (l : List Int) (hl : ∀ n ∈ l, I64 n) (hb : l.length ≤ 9223372036854775807) : Bits.total l < 2 ^ 128 := by
  have h := Bits.total_le l hl l.length (Nat.le_refl _)
  rw [List.take_length] at h
  have : l.length * 9223372036854775807 ≤ 9223372036854775807 * 9223372036854775807 := Nat.mul_le_mul_right _ hb
  omega

set_option maxRecDepth 100000 in
theorem wide_mean (p : Option Addr) (cap : Nat) (l : List Int) (w : World) (hs : Ints .i64 w p l) (hl : ∀ n ∈ l, I64 n) (hb : l.length ≤ 9223372036854775807) :
    Calls Tryz.prog 98 #[.slice p l.length cap] w fun e w' => e = .returned (.int .i64 (Wide.up (Bits.total l) l.length)) ∧ Below w.heap.size w w' := by
  have h1 := wide_total p cap l w hs hl hb
  have h2 := wide_up (Bits.total l) l.length (Bits.total_lt l hl hb) (by omega)
  have HS := Lib.hid hs
  have HL := Lib.hid hl
  clear hs hl
  go_enter Tryz.func98, Tryz.ntmps98
  go_wp2_with fail
  (with_reducible refine h1.mono ?_)
  rintro e w1 ⟨rfl, hb1⟩
  have HB1 := Lib.hid hb1
  clear hb1
  go_wp2_with fail
  (with_reducible refine (h2 _).mono ?_)
  rintro e w2 ⟨rfl, hb2⟩
  have HB2 := Lib.hid (HB1.out.trans (hb2.mono HB1.out.size))
  clear hb2
  go_wp2
  go_ret
  exact ⟨rfl, HB2.out⟩
end Go.Proofs.YtldhbgefpfmkmaaGreat
